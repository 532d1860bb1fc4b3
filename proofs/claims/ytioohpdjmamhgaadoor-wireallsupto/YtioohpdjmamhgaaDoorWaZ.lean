/-
  WireAlls: its loop over All. Written by mkwz.py.
-/
import Derived.Test.YtioohpdjmamhgaaDoorWaY
namespace Go.Proofs.YtioohpdjmamhgaaDoor
open Go.RowKit Go.Deep Crc
set_option linter.unusedVariables false
set_option linter.unusedSimpArgs false
set_option maxRecDepth 100000
set_option maxHeartbeats 4000000
attribute [local go_sem] Oper.semAt_some
/-- only one block has changed. -/
structure K1 (N : Nat) (w w' : World) : Prop where
  os : w'.os = w.os
  tape : w'.tape = w.tape
  output : w'.output = w.output
  size : w.heap.size ≤ w'.heap.size
  obj : ∀ b, b < w.heap.size → b ≠ N → w'.heap[b]? = w.heap[b]?
theorem K1.refl (N : Nat) (w : World) : K1 N w w := ⟨rfl, rfl, rfl, Nat.le_refl _, fun _ _ _ => rfl⟩
theorem K1.trans {N : Nat} {a b c : World} (h : K1 N a b) (k : K1 N b c) : K1 N a c :=
  ⟨k.os.trans h.os, k.tape.trans h.tape, k.output.trans h.output, Nat.le_trans h.size k.size, fun g hg hN => (k.obj g (Nat.lt_of_lt_of_le hg h.size) hN).trans (h.obj g hg hN)⟩
theorem K1.of {N : Nat} {w w' : World} (h : Below w.heap.size w w') : K1 N w w' := ⟨h.os, h.tape, h.output, h.size, fun g hg _ => h.block g hg⟩
theorem K1.set (N : Nat) (w : World) (v : Value) : K1 N w (w.setCell ⟨N, 0, none⟩ v) :=
  ⟨rfl, rfl, rfl, by simp [World.setCell], fun b _ hN => heap_setCell_other _ _ _ _ (by show b ≠ N; exact hN)⟩
theorem K1.row {N : Nat} {w w' : World} (h : K1 N w w') {g : Nat} {o : Obj} (e : w.heap[g]? = some o) (hN : g ≠ N) : w'.heap[g]? = some o := (h.obj g (Array.getElem?_eq_some_iff.1 e).1 hN).trans e
theorem blind_k1 {N : Nat} {w : World} : Blind w.heap.size (fun W => K1 N w W) := fun W W' row h hg hr =>
  ⟨hg.os.trans h.os, hg.tape.trans h.tape, hg.output.trans h.output, Nat.le_trans h.size hg.size, fun j hj a => (hg.block j (Nat.lt_of_lt_of_le hj h.size) (fun e => by have := (hr _ e.symm).1; omega)).trans (h.obj j hj a)⟩
theorem blind_row {B k : Nat} {o : Obj} (hk : o.isCells = true) : Blind B (fun W => W.heap[k]? = some o) := fun W W' row h hg hr => by
  rw [← h]
  refine hg.block k (Array.getElem?_eq_some_iff.1 h).1 (fun e => ?_)
  obtain ⟨_, o', h1, h2⟩ := hr _ e.symm
  rw [h] at h1; cases h1; rw [hk] at h2; cases h2
theorem Tl.mid {d r : List (List Nat)} {c : List Nat} {vs : List (Value × Int)} (h : Tl (d ++ c :: r) vs) : ∃ (hl : d.length < vs.length), UnpR c vs[d.length].1 vs[d.length].2 := by
  obtain ⟨x, y, rfl, h1, h2⟩ := h.split
  match y, h2 with
  | v :: y, h2 =>
    have e := h1.len
    have hl : d.length < (x ++ v :: y).length := by rw [List.length_append]; simp; omega
    refine ⟨hl, ?_⟩
    have : (x ++ v :: y)[d.length] = v := by simp [e]
    rw [this]; exact h2.1
theorem waR (ST RD WT NB CX : Nat) (q pw : Option Addr) (c22 cw : Nat) (cur : List Nat) (stop r : Int) (vs : List (Value × Int)) (ds : List Deferred) {sg c : Code} (has : (Tryd.f6.body.bind rfAs) = some sg) (hc : (Tryd.f6.body.bind rfOf) = some c) (u0 u1 u2 u3 u5 u6 u7 u8 u9 u11 u14 u15 u16 u17 u18 u19 u20 u21 u22 u23 u24 u25 u26 u27 u28 u29 u30 u31 u32 u33 u34 u35 u36 u37 u38 u39 u40 u41 u42 u43 u44 u45 u46 u47 u48 u49 u50 u51 u52 u53 u54 u55 u56 u57 u59 u60 u61 u62 u63 u64 u65 u66 u67 u68 u69 u70 u71 u72 u73 u74 u75 u76 u77 u78 u79 u80 u81 u82 u83 u84 u85 u86 u87 u88 u89 u90 u91 u92 u93 u94 u95 u96 u97 u98 u99 u100 u101 u102 u103 u104 u105 u106 u107 u108 u109 : Value) {W0 : World}
    (hST : W0.heap[ST]? = some (.cells #[.int .i64 stop] 3 (0, 0))) (hRD : W0.heap[RD]? = some (.cells #[.int .i64 r] 3 (0, 0))) (hWT : W0.heap[WT]? = some (.cells #[.slice pw vs.length cw] 41 (0, 0))) (hNB : W0.heap[NB]? = some (.cells #[.int .i64 0] 3 (0, 0)))
    (hPW : PwR W0 (.slice pw vs.length cw) vs) (hgN : ∀ g, pw = some ⟨g, 0, none⟩ → g ≠ NB) (hT : Tl (chs cur) vs) (hCX : W0.heap[CX]? = some (.cells #[.slice q cur.length c22] 22 (0, 0))) (hS : Sx W0 (.slice q cur.length c22) cur) (ho : Oct cur) (hlen : cur.length ≤ 1048576) (hL : Laid W0) (hN0 : NB ≠ 0)
    (dS : ST ≠ NB) (dR : RD ≠ NB)
    {Q : Exit → Act → World → Prop} (hex : ∀ a' W, Q .normal a' W → (Code.exit 4).wpIn Fence.wide 5 Tryd.prog Q a' W)
    (hrest : ∀ (D n : Nat) (W : World), W0.heap.size ≤ D → K1 NB W0 W → W.heap[NB]? = some (.cells #[.int .i64 (n : Int)] 3 (0, 0)) → (n = vs.length ∨ (r = 0 ∧ (n : Int) = stop)) → W.heap[D]? = some (.deferred (some [])) → Q .normal { tmps := #[u0, u1, u2, u3, .pointer (some ⟨ST, 0, none⟩), u5, u6, u7, u8, u9, .pointer (some ⟨RD, 0, none⟩), u11, .pointer (some ⟨WT, 0, none⟩), .pointer (some ⟨NB, 0, none⟩), u14, u15, u16, u17, u18, u19, u20, u21, u22, u23, u24, u25, u26, u27, u28, u29, u30, u31, u32, u33, u34, u35, u36, u37, u38, u39, u40, u41, u42, u43, u44, u45, u46, u47, u48, u49, u50, u51, u52, u53, u54, u55, u56, u57, .func (.func 28) #[] #[.pointer (some ⟨CX, 0, none⟩)], u59, u60, u61, u62, u63, u64, u65, u66, u67, u68, u69, u70, u71, u72, u73, u74, u75, u76, u77, u78, u79, u80, u81, u82, u83, u84, u85, u86, u87, u88, u89, u90, u91, u92, u93, u94, u95, u96, u97, u98, u99, u100, u101, u102, u103, u104, u105, u106, u107, u108, u109], defers := { target := .collected D, args := #[] } :: ds } W) :
    (Code.rangeFunc (.tmp 58) #[59, 60] sg c).wpIn Fence.wide 5 Tryd.prog Q { tmps := #[u0, u1, u2, u3, .pointer (some ⟨ST, 0, none⟩), u5, u6, u7, u8, u9, .pointer (some ⟨RD, 0, none⟩), u11, .pointer (some ⟨WT, 0, none⟩), .pointer (some ⟨NB, 0, none⟩), u14, u15, u16, u17, u18, u19, u20, u21, u22, u23, u24, u25, u26, u27, u28, u29, u30, u31, u32, u33, u34, u35, u36, u37, u38, u39, u40, u41, u42, u43, u44, u45, u46, u47, u48, u49, u50, u51, u52, u53, u54, u55, u56, u57, .func (.func 28) #[] #[.pointer (some ⟨CX, 0, none⟩)], u59, u60, u61, u62, u63, u64, u65, u66, u67, u68, u69, u70, u71, u72, u73, u74, u75, u76, u77, u78, u79, u80, u81, u82, u83, u84, u85, u86, u87, u88, u89, u90, u91, u92, u93, u94, u95, u96, u97, u98, u99, u100, u101, u102, u103, u104, u105, u106, u107, u108, u109], defers := ds } W0 := by
  have HR := hid hrest
  have HE := hid hex
  clear hrest hex
  have bN := (Array.getElem?_eq_some_iff.1 hNB).1
  have hvl := hT.len
  have hcb := chs_bound cur
  have nW : WT ≠ NB := by rintro rfl; rw [hWT] at hNB; simp at hNB
  refine range_all (by omega) (CX := CX) (xs := cur) (v := .slice q cur.length c22) rfl rfl (row_cell hCX 0) hS ho (by omega)
    (fun r W => K1 NB W0 W ∧ ∃ d, d ++ r = chs cur ∧ W.heap[NB]? = some (.cells #[.int .i64 (d.length : Nat)] 3 (0, 0)))
    (fun cd W => K1 NB W0 W ∧ ∃ n : Nat, (cd = .exit 4 ∧ r = 0 ∧ (n : Int) = stop) ∧ W.heap[NB]? = some (.cells #[.int .i64 (n : Int)] 3 (0, 0)))
    ?hI ?hIx ?hgr ?hLd ?h0
    (fun Wx V E => { tmps := #[u0, u1, u2, u3, .pointer (some ⟨ST, 0, none⟩), u5, u6, u7, u8, u9, .pointer (some ⟨RD, 0, none⟩), u11, .pointer (some ⟨WT, 0, none⟩), .pointer (some ⟨NB, 0, none⟩), .pointer (some ⟨Wx.heap.size, 0, none⟩), .int .i64 E, u16, u17, u18, u19, u20, u21, u22, u23, u24, u25, u26, u27, u28, u29, u30, u31, u32, u33, u34, u35, u36, u37, u38, u39, u40, u41, u42, u43, u44, u45, u46, u47, u48, u49, u50, u51, u52, u53, u54, u55, u56, u57, .func (.func 28) #[] #[.pointer (some ⟨CX, 0, none⟩)], V, .int .i64 E, u61, u62, u63, u64, u65, u66, u67, u68, u69, u70, u71, u72, u73, u74, u75, u76, u77, u78, u79, u80, u81, u82, u83, u84, u85, u86, u87, u88, u89, u90, u91, u92, u93, u94, u95, u96, u97, u98, u99, u100, u101, u102, u103, u104, u105, u106, u107, u108, u109], defers := [] })
    (fun V E => .cells V.cells 31 (0, 0))
    ?assign ?body ?done ?stop
  case hI =>
    rintro r W W' row ⟨hk, d, h1, h3⟩ hg hr
    exact ⟨blind_k1 W W' row hk hg hr, d, h1, blind_row rfl W W' row h3 hg hr⟩
  case hIx =>
    rintro cd W W' row ⟨hk, n, h1, h3⟩ hg hr
    exact ⟨blind_k1 W W' row hk hg hr, n, h1, blind_row rfl W W' row h3 hg hr⟩
  case hgr =>
    rintro r W W' ⟨hk, d, h1, h3⟩ hw
    exact ⟨hk.trans (K1.of hw), d, h1, (hw.block _ (Array.getElem?_eq_some_iff.1 h3).1).trans h3⟩
  case hLd =>
    rintro r W ⟨hk, _⟩ k hk2
    have := hL k hk2
    rw [cell_same' (hk.obj 0 (block_lt_of_cell this) (Ne.symm hN0))]
    exact this
  case h0 => exact ⟨K1.refl _ _, [], rfl, hNB⟩
  case assign =>
    intro l ck V E W K hU hK
    obtain ⟨k, a0, a1, a2, a3, a4, a5, a6, rfl⟩ := hU.form
    simp only [Tryd.f6, rfAs, Option.bind, Option.or] at has
    injection has with has
    subst has
    gi_wp2_with fail
    exact hK
  case body =>
    rintro l ck V E rr Wx W hsz hU ⟨hk, d, h1, h3⟩ hob
    rw [← h1] at hT
    obtain ⟨hl, hU2⟩ := hT.mid
    obtain ⟨e1, e2⟩ := hU.one hU2
    obtain ⟨k, a0, a1, a2, a3, a4, a5, a6, rfl⟩ := hU.form
    have he : vs[d.length] = (.agg #[.int .u8 (k : Nat), .int .u64 (a0 : Nat), .int .u64 (a1 : Nat), .int .u64 (a2 : Nat), .int .u64 (a3 : Nat), .int .u64 (a4 : Nat), .int .u64 (a5 : Nat), .int .u64 (a6 : Nat)], E) := Prod.ext e1.symm e2.symm
    obtain ⟨gw, hpw, c0, c1, c2, c3, c4, c5, c6, c7, c8⟩ := hPW.at hl he
    have tr : ∀ jj v, W0.cell? ⟨gw, jj, none⟩ = some v → W.cell? ⟨gw, jj, none⟩ = some v := fun jj v hv => by
      rw [cell_same' (hk.obj gw (block_lt_of_cell hv) (hgN gw hpw))]; exact hv
    subst hpw
    have FIN : ∀ nq, K1 NB W ((W.drewN nq).setCell ⟨NB, 0, none⟩ (.int .i64 ((d.length + 1 : Nat) : Int))) ∧ ((W.drewN nq).setCell ⟨NB, 0, none⟩ (.int .i64 ((d.length + 1 : Nat) : Int))).heap[NB]? = some (.cells #[.int .i64 ((d.length + 1 : Nat) : Int)] 3 (0, 0)) := fun nq => by
      refine ⟨(K1.of (N := NB) (show Below W.heap.size W (W.drewN nq) from below_drews rfl rfl rfl rfl)).trans (K1.set _ _ _), ?_⟩
      rw [heap_setCell_same (W.drewN nq) NB 0 _ 3 _ (show (W.drewN nq).heap[NB]? = _ from h3)]; rfl
    have keeps : ∀ nq, KeepsOthers W ((W.drewN nq).setCell ⟨NB, 0, none⟩ (.int .i64 ((d.length + 1 : Nat) : Int))) := fun nq => by
      refine ⟨(FIN nq).1.size, fun j o hj hoc => (FIN nq).1.row hj ?_⟩
      rintro rfl; rw [h3] at hj; cases hj; cases hoc
    have abs : ∀ nq, Ab (W0.heap.size + 2) W ((W.drewN nq).setCell ⟨NB, 0, none⟩ (.int .i64 ((d.length + 1 : Nat) : Int))) := fun nq j cs hj hcs => (FIN nq).1.row hcs (by omega)
    have nv1 : vs.length ≤ 1048577 := by omega
    by_cases hr : r = 0
    · by_cases hst : ((d.length + 1 : Nat) : Int) = stop
      · refine waB_x ST RD WT NB Wx.heap.size gw cw vs.length d.length l _ r stop (by omega) hc u0 u1 u2 u3 u5 u6 u7 u8 u9 u11 u16 u17 u18 u19 u20 u21 u22 u23 u24 u25 u26 u27 u28 u29 u30 u31 u32 u33 u34 u35 u36 u37 u38 u39 u40 u41 u42 u43 u44 u45 u46 u47 u48 u49 u50 u51 u52 u53 u54 u55 u56 u57 (.func (.func 28) #[] #[.pointer (some ⟨CX, 0, none⟩)]) (.agg #[.int .u8 (k : Nat), .int .u64 (a0 : Nat), .int .u64 (a1 : Nat), .int .u64 (a2 : Nat), .int .u64 (a3 : Nat), .int .u64 (a4 : Nat), .int .u64 (a5 : Nat), .int .u64 (a6 : Nat)]) (.int .i64 E) u61 u62 u63 u64 u65 u66 u67 u68 u69 u70 u71 u72 u73 u74 u75 u76 u77 u78 u79 u80 u81 u82 u83 u84 u85 u86 u87 u88 u89 u90 u91 u92 u93 u94 u95 u96 u97 u98 u99 u100 u101 u102 u103 u104 u105 u106 u107 u108 u109 k a0 a1 a2 a3 a4 a5 a6 E (hk.row hST dS) (hk.row hRD dR) (hk.row hWT nW) h3 hob (tr _ _ c0) (tr _ _ c1) (tr _ _ c2) (tr _ _ c3) (tr _ _ c4) (tr _ _ c5) (tr _ _ c6) (tr _ _ c7) (tr _ _ c8) hl nv1 dS dR hr hst (fun a' nq => ?_)
        exact ⟨keeps nq, hk.trans (FIN nq).1, d.length + 1, ⟨rfl, hr, hst⟩, (FIN nq).2⟩
      · refine waB_n ST RD WT NB Wx.heap.size gw cw vs.length d.length l _ r stop (by omega) hc u0 u1 u2 u3 u5 u6 u7 u8 u9 u11 u16 u17 u18 u19 u20 u21 u22 u23 u24 u25 u26 u27 u28 u29 u30 u31 u32 u33 u34 u35 u36 u37 u38 u39 u40 u41 u42 u43 u44 u45 u46 u47 u48 u49 u50 u51 u52 u53 u54 u55 u56 u57 (.func (.func 28) #[] #[.pointer (some ⟨CX, 0, none⟩)]) (.agg #[.int .u8 (k : Nat), .int .u64 (a0 : Nat), .int .u64 (a1 : Nat), .int .u64 (a2 : Nat), .int .u64 (a3 : Nat), .int .u64 (a4 : Nat), .int .u64 (a5 : Nat), .int .u64 (a6 : Nat)]) (.int .i64 E) u61 u62 u63 u64 u65 u66 u67 u68 u69 u70 u71 u72 u73 u74 u75 u76 u77 u78 u79 u80 u81 u82 u83 u84 u85 u86 u87 u88 u89 u90 u91 u92 u93 u94 u95 u96 u97 u98 u99 u100 u101 u102 u103 u104 u105 u106 u107 u108 u109 k a0 a1 a2 a3 a4 a5 a6 E (hk.row hST dS) (hk.row hRD dR) (hk.row hWT nW) h3 hob (tr _ _ c0) (tr _ _ c1) (tr _ _ c2) (tr _ _ c3) (tr _ _ c4) (tr _ _ c5) (tr _ _ c6) (tr _ _ c7) (tr _ _ c8) hl nv1 dS dR hr hst (fun a' nq => ?_)
        exact ⟨keeps nq, abs nq, hk.trans (FIN nq).1, d ++ [ck], by simpa using h1, by rw [List.length_append]; exact (FIN nq).2⟩
    · refine waB_r ST RD WT NB Wx.heap.size gw cw vs.length d.length l _ r stop (by omega) hc u0 u1 u2 u3 u5 u6 u7 u8 u9 u11 u16 u17 u18 u19 u20 u21 u22 u23 u24 u25 u26 u27 u28 u29 u30 u31 u32 u33 u34 u35 u36 u37 u38 u39 u40 u41 u42 u43 u44 u45 u46 u47 u48 u49 u50 u51 u52 u53 u54 u55 u56 u57 (.func (.func 28) #[] #[.pointer (some ⟨CX, 0, none⟩)]) (.agg #[.int .u8 (k : Nat), .int .u64 (a0 : Nat), .int .u64 (a1 : Nat), .int .u64 (a2 : Nat), .int .u64 (a3 : Nat), .int .u64 (a4 : Nat), .int .u64 (a5 : Nat), .int .u64 (a6 : Nat)]) (.int .i64 E) u61 u62 u63 u64 u65 u66 u67 u68 u69 u70 u71 u72 u73 u74 u75 u76 u77 u78 u79 u80 u81 u82 u83 u84 u85 u86 u87 u88 u89 u90 u91 u92 u93 u94 u95 u96 u97 u98 u99 u100 u101 u102 u103 u104 u105 u106 u107 u108 u109 k a0 a1 a2 a3 a4 a5 a6 E (hk.row hST dS) (hk.row hRD dR) (hk.row hWT nW) h3 hob (tr _ _ c0) (tr _ _ c1) (tr _ _ c2) (tr _ _ c3) (tr _ _ c4) (tr _ _ c5) (tr _ _ c6) (tr _ _ c7) (tr _ _ c8) hl nv1 dS dR hr (fun a' nq => ?_)
      exact ⟨keeps nq, abs nq, hk.trans (FIN nq).1, d ++ [ck], by simpa using h1, by rw [List.length_append]; exact (FIN nq).2⟩
  case done =>
    rintro D W hD ⟨hk, d, h1, h3⟩ hd'
    rw [List.append_nil] at h1
    exact HR.out D d.length W hD hk h3 (.inl (by rw [h1]; exact hvl)) hd'
  case stop =>
    rintro D cd W hD ⟨hk, n, ⟨rfl, hr, hs⟩, h3⟩ hd'
    exact HE.out _ _ (HR.out D n W hD hk h3 (.inr ⟨hr, hs⟩) hd')
end Go.Proofs.YtioohpdjmamhgaaDoor
