/-
  What stands in goes; the bodies of its two loops over All. Written by mkgo.py.
-/
import Derived.Test.YthidnipmkffilaaIyL
namespace Go.Proofs.Ythidnipmkffilaa
open Go.RowKit Go.Deep
set_option linter.unusedVariables false
set_option linter.unusedSimpArgs false
set_option maxRecDepth 100000
set_option maxHeartbeats 8000000
attribute [local go_sem] Oper.semAt_some
theorem Gs.cell4 {W0 : World} {G : Gc} {T : Ix.Tab} {U : World} (h : Gs W0 G T U) {Z : Nat} {c : Array Value} (hz : U.heap[Z]? = some (.cells c 4 (0, 0))) (hne : Z ≠ G.RC) (hw : W0.heap.size ≤ Z) (v : Value) : Gs W0 G T (U.setCell ⟨Z, 0, none⟩ v) := by
  have k := Kp.setCell (B := fun b => b = Z) (w := U) (g := Z) rfl 0 v
  obtain ⟨c1, e1⟩ := h.lx.isP'
  obtain ⟨c2, e2⟩ := h.rx.isP'
  have ne : ∀ {g : Nat} {c' : Array Value} {t : TypeId}, U.heap[g]? = some (.cells c' t (0, 0)) → t ≠ 4 → ¬ g = Z := fun {g c' t} h1 h2 e => by
    subst e; rw [h1] at hz; injection hz with hz; injection hz with _ hz _; exact h2 hz
  refine h.keep k (h.lx.kp k (ne h.lx.row (by decide)) (ne e1 (by decide))) h.tx (ne h.rx.row (by decide)) (ne e2 (by decide)) (ne h.b0 (by decide)) (ne h.b1 (by decide)) (fun e => hne e.symm) (ne h.wc (by decide)) (fun g hg => ?_) (fun g hg e => by subst e; omega)
  obtain ⟨_, ⟨ea, _⟩ | ⟨g', c', cur, ea, _, eb, _⟩⟩ := h.ow
  · rw [ea] at hg; cases hg
  · rw [ea] at hg
    injection hg with hg
    subst hg
    exact ne eb (by decide)
/-- the table is turned. -/
theorem Gs.turn {W0 : World} {G : Gc} {T T' : Ix.Tab} {U V : World} (h : Gs W0 G T U) (hl : Lx V G.X G.P G.n G.room T') (ht : Ix.Tidy G.n (hm G.n) T') (k : Kp (fun b => b = G.X ∨ b = G.P) U V) : Gs W0 G T' V := by
  obtain ⟨c1, e1⟩ := h.lx.isP'
  obtain ⟨c2, e2⟩ := h.rx.isP'
  have ne : ∀ {g : Nat} {c' : Array Value} {t : TypeId}, U.heap[g]? = some (.cells c' t (0, 0)) → t ≠ 69 → t ≠ 71 → ¬ (g = G.X ∨ g = G.P) := fun {g c' t} h1 h2 h3 => by
    rintro (e | e)
    · subst e; rw [h.lx.row] at h1; injection h1 with h1; injection h1 with _ h1 _; exact h2 h1.symm
    · subst e; rw [e1] at h1; injection h1 with h1; injection h1 with _ h1 _; exact h3 h1.symm
  refine h.keep k hl ht (ne h.rx.row (by decide) (by decide)) (ne e2 (by decide) (by decide)) (ne h.b0 (by decide) (by decide)) (ne h.b1 (by decide) (by decide)) (ne h.rc (by decide) (by decide)) (ne h.wc (by decide) (by decide)) (fun g hg => ?_) (fun g hg e => by rcases e with e | e; exact .inl e; exact .inr (.inl e))
  obtain ⟨_, ⟨ea, _⟩ | ⟨g', c', cur, ea, _, eb, _⟩⟩ := h.ow
  · rw [ea] at hg; cases hg
  · rw [ea] at hg
    injection hg with hg
    subst hg
    exact ne eb (by decide) (by decide)
/-- the table and the mark, as the third loop goes on. -/
def tu (G : Gc) (T : Ix.Tab) (i : Nat) (d : List (Int × Int)) : Bool × Ix.Tab := if d = [] then (false, T) else trn G.n G.room T G.o.ky i
theorem gB2 {W0 W : World} (G : Gc) (T : Ix.Tab) (i N TU C CX : Nat) (k v : Int) (d r : List (Int × Int)) (l m' : Nat) (hmm : 1 ≤ m') {c : Code} (hc : (Try.f29.body.bind rfB2) = some c) (u0 u1 u7 u8 u9 u10 u16 u17 u18 u19 u20 u21 u22 u23 u24 u25 u26 u27 u28 u29 u30 u31 u32 u33 u34 u35 u36 u37 u38 u39 u40 u41 u42 u43 u44 u45 u46 u47 u48 u49 u50 u51 u52 u53 u54 u55 u56 u57 u58 u59 u60 u61 u62 u63 u64 u65 u66 u67 u68 u69 u70 u71 u72 u73 u74 u75 u76 u77 u78 u79 u80 u81 u82 u83 u84 u85 u86 u87 u88 u89 u90 u91 u92 u96 u97 u98 u99 u100 u101 u102 u103 u104 u105 u106 u107 u108 u109 u110 u111 u112 u113 u114 u115 u116 u117 u118 u119 u120 u121 u122 u123 u124 u125 u126 u127 u128 u129 u130 u131 u132 u133 u134 u135 u136 u137 u138 u139 u140 u141 u142 u143 u144 u145 u146 u147 u148 u149 u150 u151 u152 u153 u154 u155 u156 : Value)
    (h : Gs W0 G (tu G T i d).2 W) (hL : d ++ (k, v) :: r = G.L) (hlm : G.L.length = G.m) (hmx : G.m ≤ 131072) (hN : W.heap[N]? = some (.cells #[.int .i64 (d.length : Nat)] 3 (0, 0))) (hU : W.heap[TU]? = some (.cells #[.bool (tu G T i d).1] 4 (0, 0))) (hUR : TU ≠ G.RC) (wN : W0.heap.size ≤ N) (wU : W0.heap.size ≤ TU)
    (hF : Ix.Fd G.n (hm G.n) T G.o.ky i) (k0 : 0 ≤ G.o.ky) (k1 : G.o.ky ≤ 18446744073709551615)
    {Q : Exit → Act → World → Prop}
    (hQ1 : ∀ a' W', Gs W0 G (tu G T i (d ++ [(k, v)])).2 W' → W'.heap[N]? = some (.cells #[.int .i64 ((d ++ [(k, v)]).length : Nat)] 3 (0, 0)) → W'.heap[TU]? = some (.cells #[.bool (tu G T i (d ++ [(k, v)])).1] 4 (0, 0)) → Kp (fun b => (b = G.X ∨ b = G.P) ∨ b = TU ∨ b = N) W W' → Q .normal a' W') :
    c.wpIn (Fence.wide.inRound l) m' Try.prog Q { tmps := #[u0, u1, .pointer (some ⟨G.B0, 0, none⟩), .pointer (some ⟨G.B1, 0, none⟩), .pointer (some ⟨G.RC, 0, none⟩), .pointer (some ⟨G.WC, 0, none⟩), .func (.func 35) #[] #[.pointer (some ⟨CX, 0, none⟩)], u7, u8, u9, u10, .pointer (some ⟨N, 0, none⟩), .pointer (some ⟨TU, 0, none⟩), .pointer (some ⟨C, 0, none⟩), .int .u64 k, .int .i64 v, u16, u17, u18, u19, u20, u21, u22, u23, u24, u25, u26, u27, u28, u29, u30, u31, u32, u33, u34, u35, u36, u37, u38, u39, u40, u41, u42, u43, u44, u45, u46, u47, u48, u49, u50, u51, u52, u53, u54, u55, u56, u57, u58, u59, u60, u61, u62, u63, u64, u65, u66, u67, u68, u69, u70, u71, u72, u73, u74, u75, u76, u77, u78, u79, u80, u81, u82, u83, u84, u85, u86, u87, u88, u89, u90, u91, u92, .func (.func 35) #[] #[.pointer (some ⟨CX, 0, none⟩)], .int .u64 k, .int .i64 v, u96, u97, u98, u99, u100, u101, u102, u103, u104, u105, u106, u107, u108, u109, u110, u111, u112, u113, u114, u115, u116, u117, u118, u119, u120, u121, u122, u123, u124, u125, u126, u127, u128, u129, u130, u131, u132, u133, u134, u135, u136, u137, u138, u139, u140, u141, u142, u143, u144, u145, u146, u147, u148, u149, u150, u151, u152, u153, u154, u155, u156], defers := [] } W := by
  simp only [Try.f29, rfB2, Option.bind, Option.or] at hc
  injection hc with hc
  subst hc
  have HQ1 := hid hQ1
  obtain ⟨hlt, g, hp, w1, w2⟩ := h.want hlm hL
  have cN := row_cell hN 0
  have cW := row_cell h.wc 0
  simp only [List.getElem?_toArray, List.getElem?_cons_succ, List.getElem?_cons_zero] at cN cW
  rw [hp] at cW
  obtain ⟨z, hz⟩ : ∃ z, d.length = z := ⟨_, rfl⟩
  have HZ := hid hz
  have i1 : ¬ (G.m : Int) ≤ (z : Int) := by omega
  have i2 : (z : Int) < (G.m : Int) := by omega
  have i3 : (0 : Int) ≤ (z : Int) := by omega
  have ct : ((z : Int)).toNat = z := by omega
  obtain ⟨n1, hn1⟩ : ∃ n1 : Int, (z : Int) + 1 = n1 := ⟨_, rfl⟩
  have wj : IntKind.i64.wrap ((z : Int) + 1) = n1 := by rw [← hn1]; simp [IntKind.wrap, IntKind.bits, IntKind.signed]; omega
  have HN1 := hid (show n1 = ((d ++ [(k, v)]).length : Nat) by rw [← hn1, ← hz]; simp)
  rw [hz] at cN w1 w2 hN
  have hne : tu G T i (d ++ [(k, v)]) = trn G.n G.room T G.o.ky i := by unfold tu; rw [if_neg (by simp)]
  have HNE := hid hne
  have HUN := hid (show TU ≠ N by intro e; subst e; rw [hU] at hN; simp at hN)
  have HH := hid h
  have HNR := hid hN
  have HUR := hid hU
  clear hL hQ1 hn1 hz hp hne
  by_cases hd : d = []
  · have z0 : z = 0 := by rw [← HZ.out, hd]; rfl
    have e0 : tu G T i d = (false, T) := by unfold tu; rw [if_pos hd]
    rw [e0] at HH HUR h
    have HT := hid (turn_any G.R HH.out.lx HH.out.tx k0 k1 hF)
    have cP0 := row_cell h.b0 0
    have cP1 := row_cell h.b0 1
    have cK := row_cell h.b1 2
    simp only [oprow, List.getElem?_toArray, List.getElem?_cons_succ, List.getElem?_cons_zero] at cP0 cP1 cK
    have HFIN := hid (show ∀ w2, Lx w2 G.X G.P G.n G.room (trn G.n G.room T G.o.ky i).2 → Ix.Tidy G.n (hm G.n) (trn G.n G.room T G.o.ky i).2 → Kp (fun b => b = G.X ∨ b = G.P) W w2 →
        w2.cell? ⟨TU, 0, none⟩ = some (.bool false) ∧ w2.frozen? ⟨TU, 0, none⟩ = false ∧ (∀ q, (w2.setCell ⟨TU, 0, none⟩ q).cell? ⟨N, 0, none⟩ = some (.int .i64 z)) ∧ (∀ q, (w2.setCell ⟨TU, 0, none⟩ q).frozen? ⟨N, 0, none⟩ = false) ∧
        Gs W0 G (trn G.n G.room T G.o.ky i).2 ((w2.setCell ⟨TU, 0, none⟩ (.bool (trn G.n G.room T G.o.ky i).1)).setCell ⟨N, 0, none⟩ (.int .i64 n1)) ∧
        ((w2.setCell ⟨TU, 0, none⟩ (.bool (trn G.n G.room T G.o.ky i).1)).setCell ⟨N, 0, none⟩ (.int .i64 n1)).heap[N]? = some (.cells #[.int .i64 n1] 3 (0, 0)) ∧
        ((w2.setCell ⟨TU, 0, none⟩ (.bool (trn G.n G.room T G.o.ky i).1)).setCell ⟨N, 0, none⟩ (.int .i64 n1)).heap[TU]? = some (.cells #[.bool (trn G.n G.room T G.o.ky i).1] 4 (0, 0)) ∧
        Kp (fun b => (b = G.X ∨ b = G.P) ∨ b = TU ∨ b = N) W ((w2.setCell ⟨TU, 0, none⟩ (.bool (trn G.n G.room T G.o.ky i).1)).setCell ⟨N, 0, none⟩ (.int .i64 n1)) from fun w2 a1 a2 a3 => by
      have nX := HH.out.lx
      obtain ⟨c1, e1⟩ := nX.isP'
      have ne : ∀ {g : Nat} {c' : Array Value} {t : TypeId}, W.heap[g]? = some (.cells c' t (0, 0)) → t ≠ 69 → t ≠ 71 → ¬ (g = G.X ∨ g = G.P) := fun {g c' t} h1 h2 h3 => by
        rintro (e | e)
        · subst e; rw [nX.row] at h1; injection h1 with h1; injection h1 with _ h1 _; exact h2 h1.symm
        · subst e; rw [e1] at h1; injection h1 with h1; injection h1 with _ h1 _; exact h3 h1.symm
      have uT := a3.row HUR.out (ne HUR.out (by decide) (by decide))
      have uN := a3.row HNR.out (ne HNR.out (by decide) (by decide))
      have uN2 : ∀ q, (w2.setCell ⟨TU, 0, none⟩ q).heap[N]? = some (.cells #[.int .i64 (z : Nat)] 3 (0, 0)) := fun q => by
        rw [heap_setCell_other _ _ _ _ (by show N ≠ TU; exact Ne.symm HUN.out)]; exact uN
      have g1 := HH.out.turn a1 a2 a3
      have g2 := g1.cell4 uT hUR wU (.bool (trn G.n G.room T G.o.ky i).1)
      have g3 := g2.cell (uN2 _) wN (.int .i64 n1)
      refine ⟨row_cell uT 0, frozen_of_row w2 TU 0 _ _ uT, fun q => row_cell (uN2 q) 0, fun q => frozen_of_row _ N 0 _ _ (uN2 q), g3, ?_, ?_, ((a3.mono (fun _ _ h => .inl h)).trans (Kp.setCell (.inr (.inl rfl)) 0 _)).trans (Kp.setCell (.inr (.inr rfl)) 0 _)⟩
      · rw [heap_setCell_same _ N 0 _ 3 _ (uN2 _)]; rfl
      · rw [heap_setCell_other _ _ _ _ (by show TU ≠ N; exact HUN.out), heap_setCell_same w2 TU 0 _ 4 _ uT]; rfl)
    subst z0
    obtain rfl : n1 = 1 := by have := HN1.out; rw [hd] at this; simpa using this
    clear h hN hU e0
    gi_wp2_with (first | (refine ⟨trivial, ?_⟩; gi_at_call 42; refine (CallsIn.inRound l (callsIn_wide.2 HT.out)).mono ?_; rintro e w2 ⟨rfl, a1, a2, a3⟩; obtain ⟨f1, f2, f3, f4, f5, f6, f7, f8⟩ := HFIN.out w2 a1 a2 a3; have F1 := hid f1; have F2 := hid f2; have F3 := hid f3; have F4 := hid f4; have F5 := hid (And.intro f5 (And.intro f6 (And.intro f7 f8))); clear a1 a2 a3 f1 f2 f3 f4 f5 f6 f7 f8 HFIN HT; refine Hid.out ?_))
    have f1 := F1.out
    have f2 := F2.out
    have f3 := F3.out (.bool (trn G.n G.room T G.o.ky i).1)
    have f4 := F4.out (.bool (trn G.n G.room T G.o.ky i).1)
    refine hid ?_
    gi_wp2_with fail
    exact HQ1.out _ _ (by rw [HNE.out]; exact F5.out.1) (F5.out.2.1.trans (by rw [HN1.out])) (F5.out.2.2.1.trans (by rw [HNE.out])) F5.out.2.2.2
  · have z0 : ((z : Int) == 0) = false := by
      have : z ≠ 0 := fun e => hd (List.length_eq_zero_iff.1 (by rw [HZ.out]; exact e))
      simp; omega
    have e0 : tu G T i d = trn G.n G.room T G.o.ky i := by unfold tu; rw [if_neg hd]
    have fN := frozen_of_row W N 0 _ _ hN
    have HF := hid (And.intro (h.cell hN wN (.int .i64 n1)) (show (W.setCell ⟨N, 0, none⟩ (.int .i64 n1)).heap[N]? = some (.cells #[.int .i64 n1] 3 (0, 0)) ∧ (W.setCell ⟨N, 0, none⟩ (.int .i64 n1)).heap[TU]? = some (.cells #[.bool (tu G T i d).1] 4 (0, 0)) ∧ Kp (fun b => (b = G.X ∨ b = G.P) ∨ b = TU ∨ b = N) W (W.setCell ⟨N, 0, none⟩ (.int .i64 n1)) from by
      refine ⟨?_, ?_, Kp.setCell (.inr (.inr rfl)) 0 _⟩
      · rw [heap_setCell_same W N 0 _ 3 _ hN]; rfl
      · rw [heap_setCell_other _ _ _ _ (by show TU ≠ N; exact HUN.out)]; exact hU))
    rw [e0] at HF
    clear h hN hU e0 hd HH HNR HUR
    gi_wp2_with fail
    exact HQ1.out _ _ (by rw [HNE.out]; exact HF.out.1) (HF.out.2.1.trans (by rw [HN1.out])) (HF.out.2.2.1.trans (by rw [HNE.out])) HF.out.2.2.2
end Go.Proofs.Ythidnipmkffilaa
