/-
  The loops over All in goes. Written by mkgo2.py.
-/
import Derived.Test.YthidnipmkffilaaIyL2
namespace Go.Proofs.Ythidnipmkffilaa
open Go.RowKit Go.Deep
set_option linter.unusedVariables false
set_option linter.unusedSimpArgs false
set_option maxRecDepth 100000
set_option maxHeartbeats 8000000
attribute [local go_sem] Oper.semAt_some
theorem row_in {W W' : World} {B : Nat → Prop} {g : Nat} {c : Array Value} {t : TypeId} (k : Kp B W W') (h : W.heap[g]? = some (.cells c t (0, 0))) (hb : ∀ z, B z → ∃ c' t', W.heap[z]? = some (.cells c' t' (0, 0)) ∧ t' ≠ t) : W'.heap[g]? = some (.cells c t (0, 0)) := by
  refine k.row h (fun hB => ?_)
  obtain ⟨c', t', h1, h2⟩ := hb g hB
  rw [h] at h1; injection h1 with h1; injection h1 with _ h1 _; exact h2 h1.symm
theorem keeps {W W' : World} {B : Nat → Prop} (k : Kp B W W') (hb : ∀ z, B z → ∃ c' t', W.heap[z]? = some (.cells c' t' (0, 0))) : KeepsOthers W W' :=
  ⟨k.size, fun g o hg ho => k.row hg (fun hB => by
    obtain ⟨c', t', h1⟩ := hb g hB
    rw [hg] at h1; cases h1; cases ho)⟩
/-- what is no row of cells stays. -/
def Kd (W W' : World) : Prop := ∀ (k : Nat) (o : Obj), W.heap[k]? = some o → o.isCells = false → W'.heap[k]? = some o
theorem Kd.blind {Wb : World} : Blind Wb.heap.size (fun W => Kd Wb W) := fun W W' row h hg hr k o hk ho => by
  have h1 := h k o hk ho
  rw [← h1]
  refine hg.block k (row_lt h1) (fun e => ?_)
  have := (hr _ e.symm).1
  have := row_lt hk
  omega
theorem Kd.next {Wb W W' : World} {B : Nat → Prop} (h : Kd Wb W) (k : Kp B W W') (hb : ∀ z, B z → ∃ c' t', W.heap[z]? = some (.cells c' t' (0, 0))) : Kd Wb W' := fun g o hg ho => k.row (h g o hg ho) (fun hB => by
  obtain ⟨c', t', h1⟩ := hb g hB
  rw [h g o hg ho] at h1; cases h1; cases ho)
theorem Kd.on {Wb W W' : World} (h : Kd Wb W) (b : Below W.heap.size W W') : Kd Wb W' := fun g o hg ho => row_on (h g o hg ho) b
theorem Rg.blind {X P n cap room : Nat} {T : Ix.Tab} {B : Nat} : Blind B (fun W => Rg W X P n cap room T) := fun W W' row h hg hr => by
  have nc : ∀ {g : Nat} {c : Array Value} {t : TypeId}, W.heap[g]? = some (.cells c t (0, 0)) → ¬ (some g = row) := fun {g c t} h1 e => by
    obtain ⟨_, o', h3, h4⟩ := hr _ e.symm
    rw [h1] at h3; cases h3; cases h4
  have k : Kp (fun g => some g = row) W W' := ⟨hg.os, hg.tape, hg.output, hg.size, fun g hl hn => hg.block g hl hn⟩
  obtain ⟨cs, h1, _⟩ := h.pl
  exact h.kp k (nc h.row) (nc h1)
theorem gR1 {W0 Wb : World} (G : Gc) (T : Ix.Tab) (N RD CX : Nat) (rd : Int) (ds : List Deferred) {sg c : Code} (has : (Try.f29.body.bind rfA1) = some sg) (hc : (Try.f29.body.bind rfB1) = some c) (u0 u1 u9 u10 u11 u12 u13 u14 u15 u16 u17 u18 u19 u20 u21 u22 u23 u24 u25 u26 u27 u28 u29 u31 u32 u33 u34 u35 u36 u37 u38 u39 u40 u41 u42 u43 u44 u45 u46 u47 u48 u49 u50 u51 u52 u53 u54 u55 u56 u57 u58 u59 u60 u61 u62 u63 u64 u65 u66 u67 u68 u69 u70 u71 u72 u73 u74 u75 u76 u77 u78 u79 u80 u81 u82 u83 u84 u85 u86 u87 u88 u89 u90 u91 u92 u93 u94 u95 u96 u97 u98 u99 u100 u101 u102 u103 u104 u105 u106 u107 u108 u109 u110 u111 u112 u113 u114 u115 u116 u117 u118 u119 u120 u121 u122 u123 u124 u125 u126 u127 u128 u129 u130 u131 u132 u133 u134 u135 u136 u137 u138 u139 u140 u141 u142 u143 u144 u145 u146 u147 u148 u149 u150 u151 u152 u153 u154 u155 u156 : Value)
    (h : Gs W0 G T Wb) (hlm : G.L.length = G.m) (hmx : G.m ≤ 131072) (hLp : G.L.Perm (us T G.n)) (hLr : Ris G.L) (hN : Wb.heap[N]? = some (.cells #[.int .i64 0] 3 (0, 0))) (hR : Wb.heap[RD]? = some (.cells #[.int .i64 rd] 3 (0, 0))) (hNR : N ≠ RD) (wN : W0.heap.size ≤ N)
    (hCX : Wb.heap[CX]? = some (.cells #[.pointer (some ⟨G.X, 0, none⟩)] 22 (0, 0)))
    {Q : Exit → Act → World → Prop}
    (hr1 : ∀ (D : Nat) (W : World) (x : Int), Wb.heap.size ≤ D → Gs W0 G T W → W.heap[N]? = some (.cells #[.int .i64 x] 3 (0, 0)) → W.heap[RD]? = some (.cells #[.int .i64 rd] 3 (0, 0)) → W.heap[CX]? = some (.cells #[.pointer (some ⟨G.X, 0, none⟩)] 22 (0, 0)) → (x = G.m ∨ (rd = 0 ∧ x = G.o.nn)) → Kd Wb W → W.heap[D]? = some (.deferred (some [])) → Q .normal { tmps := #[u0, u1, .pointer (some ⟨G.B0, 0, none⟩), .pointer (some ⟨G.B1, 0, none⟩), .pointer (some ⟨G.RC, 0, none⟩), .pointer (some ⟨G.WC, 0, none⟩), .func (.func 35) #[] #[.pointer (some ⟨CX, 0, none⟩)], .pointer (some ⟨RD, 0, none⟩), .pointer (some ⟨N, 0, none⟩), u9, u10, u11, u12, u13, u14, u15, u16, u17, u18, u19, u20, u21, u22, u23, u24, u25, u26, u27, u28, u29, .func (.func 35) #[] #[.pointer (some ⟨CX, 0, none⟩)], u31, u32, u33, u34, u35, u36, u37, u38, u39, u40, u41, u42, u43, u44, u45, u46, u47, u48, u49, u50, u51, u52, u53, u54, u55, u56, u57, u58, u59, u60, u61, u62, u63, u64, u65, u66, u67, u68, u69, u70, u71, u72, u73, u74, u75, u76, u77, u78, u79, u80, u81, u82, u83, u84, u85, u86, u87, u88, u89, u90, u91, u92, u93, u94, u95, u96, u97, u98, u99, u100, u101, u102, u103, u104, u105, u106, u107, u108, u109, u110, u111, u112, u113, u114, u115, u116, u117, u118, u119, u120, u121, u122, u123, u124, u125, u126, u127, u128, u129, u130, u131, u132, u133, u134, u135, u136, u137, u138, u139, u140, u141, u142, u143, u144, u145, u146, u147, u148, u149, u150, u151, u152, u153, u154, u155, u156], defers := { target := .collected D, args := #[] } :: ds } W ∧ Q (.exit 2) { tmps := #[u0, u1, .pointer (some ⟨G.B0, 0, none⟩), .pointer (some ⟨G.B1, 0, none⟩), .pointer (some ⟨G.RC, 0, none⟩), .pointer (some ⟨G.WC, 0, none⟩), .func (.func 35) #[] #[.pointer (some ⟨CX, 0, none⟩)], .pointer (some ⟨RD, 0, none⟩), .pointer (some ⟨N, 0, none⟩), u9, u10, u11, u12, u13, u14, u15, u16, u17, u18, u19, u20, u21, u22, u23, u24, u25, u26, u27, u28, u29, .func (.func 35) #[] #[.pointer (some ⟨CX, 0, none⟩)], u31, u32, u33, u34, u35, u36, u37, u38, u39, u40, u41, u42, u43, u44, u45, u46, u47, u48, u49, u50, u51, u52, u53, u54, u55, u56, u57, u58, u59, u60, u61, u62, u63, u64, u65, u66, u67, u68, u69, u70, u71, u72, u73, u74, u75, u76, u77, u78, u79, u80, u81, u82, u83, u84, u85, u86, u87, u88, u89, u90, u91, u92, u93, u94, u95, u96, u97, u98, u99, u100, u101, u102, u103, u104, u105, u106, u107, u108, u109, u110, u111, u112, u113, u114, u115, u116, u117, u118, u119, u120, u121, u122, u123, u124, u125, u126, u127, u128, u129, u130, u131, u132, u133, u134, u135, u136, u137, u138, u139, u140, u141, u142, u143, u144, u145, u146, u147, u148, u149, u150, u151, u152, u153, u154, u155, u156], defers := { target := .collected D, args := #[] } :: ds } W) :
    (Code.rangeFunc (.tmp 30) #[31, 32] sg c).wpIn Fence.wide 5 Try.prog Q { tmps := #[u0, u1, .pointer (some ⟨G.B0, 0, none⟩), .pointer (some ⟨G.B1, 0, none⟩), .pointer (some ⟨G.RC, 0, none⟩), .pointer (some ⟨G.WC, 0, none⟩), .func (.func 35) #[] #[.pointer (some ⟨CX, 0, none⟩)], .pointer (some ⟨RD, 0, none⟩), .pointer (some ⟨N, 0, none⟩), u9, u10, u11, u12, u13, u14, u15, u16, u17, u18, u19, u20, u21, u22, u23, u24, u25, u26, u27, u28, u29, .func (.func 35) #[] #[.pointer (some ⟨CX, 0, none⟩)], u31, u32, u33, u34, u35, u36, u37, u38, u39, u40, u41, u42, u43, u44, u45, u46, u47, u48, u49, u50, u51, u52, u53, u54, u55, u56, u57, u58, u59, u60, u61, u62, u63, u64, u65, u66, u67, u68, u69, u70, u71, u72, u73, u74, u75, u76, u77, u78, u79, u80, u81, u82, u83, u84, u85, u86, u87, u88, u89, u90, u91, u92, u93, u94, u95, u96, u97, u98, u99, u100, u101, u102, u103, u104, u105, u106, u107, u108, u109, u110, u111, u112, u113, u114, u115, u116, u117, u118, u119, u120, u121, u122, u123, u124, u125, u126, u127, u128, u129, u130, u131, u132, u133, u134, u135, u136, u137, u138, u139, u140, u141, u142, u143, u144, u145, u146, u147, u148, u149, u150, u151, u152, u153, u154, u155, u156], defers := ds } Wb := by
  have HR := hid hr1
  clear hr1
  have wW := h.kp.size
  have bN := row_lt hN
  have bR := row_lt hR
  have bC := row_lt hCX
  refine range_all (by omega) (CX := CX) (X := G.X) (P := G.P) (m := G.n) (room := G.room) (T := T) rfl rfl (row_cell hCX 0) h.lx
    (fun r W => ∃ d, d ++ r = G.L ∧ Gs W0 G T W ∧ W.heap[N]? = some (.cells #[.int .i64 (d.length : Nat)] 3 (0, 0)) ∧ W.heap[RD]? = some (.cells #[.int .i64 rd] 3 (0, 0)) ∧ W.heap[CX]? = some (.cells #[.pointer (some ⟨G.X, 0, none⟩)] 22 (0, 0)) ∧ Kd Wb W)
    (fun cd W => cd = .exit 2 ∧ rd = 0 ∧ Gs W0 G T W ∧ W.heap[N]? = some (.cells #[.int .i64 G.o.nn] 3 (0, 0)) ∧ W.heap[RD]? = some (.cells #[.int .i64 rd] 3 (0, 0)) ∧ W.heap[CX]? = some (.cells #[.pointer (some ⟨G.X, 0, none⟩)] 22 (0, 0)) ∧ Kd Wb W)
    ?hI ?hIx ?hgr ?h0
    (fun x => { tmps := #[u0, u1, .pointer (some ⟨G.B0, 0, none⟩), .pointer (some ⟨G.B1, 0, none⟩), .pointer (some ⟨G.RC, 0, none⟩), .pointer (some ⟨G.WC, 0, none⟩), .func (.func 35) #[] #[.pointer (some ⟨CX, 0, none⟩)], .pointer (some ⟨RD, 0, none⟩), .pointer (some ⟨N, 0, none⟩), .int .u64 x.1, .int .i64 x.2, u11, u12, u13, u14, u15, u16, u17, u18, u19, u20, u21, u22, u23, u24, u25, u26, u27, u28, u29, .func (.func 35) #[] #[.pointer (some ⟨CX, 0, none⟩)], .int .u64 x.1, .int .i64 x.2, u33, u34, u35, u36, u37, u38, u39, u40, u41, u42, u43, u44, u45, u46, u47, u48, u49, u50, u51, u52, u53, u54, u55, u56, u57, u58, u59, u60, u61, u62, u63, u64, u65, u66, u67, u68, u69, u70, u71, u72, u73, u74, u75, u76, u77, u78, u79, u80, u81, u82, u83, u84, u85, u86, u87, u88, u89, u90, u91, u92, u93, u94, u95, u96, u97, u98, u99, u100, u101, u102, u103, u104, u105, u106, u107, u108, u109, u110, u111, u112, u113, u114, u115, u116, u117, u118, u119, u120, u121, u122, u123, u124, u125, u126, u127, u128, u129, u130, u131, u132, u133, u134, u135, u136, u137, u138, u139, u140, u141, u142, u143, u144, u145, u146, u147, u148, u149, u150, u151, u152, u153, u154, u155, u156], defers := [] })
    ?assign ?body ?done ?stop
  case hI =>
    rintro r W W' row ⟨d, h1, h2, h3, h4, h5, h6⟩ hg hr
    exact ⟨d, h1, Gs.blind wW W W' row h2 hg hr, blind_row3 W W' row h3 hg hr, blind_row3 W W' row h4 hg hr, blind_row3 W W' row h5 hg hr, Kd.blind W W' row h6 hg hr⟩
  case hIx =>
    rintro cd W W' row ⟨h0, h1, h2, h3, h4, h5, h6⟩ hg hr
    exact ⟨h0, h1, Gs.blind wW W W' row h2 hg hr, blind_row3 W W' row h3 hg hr, blind_row3 W W' row h4 hg hr, blind_row3 W W' row h5 hg hr, Kd.blind W W' row h6 hg hr⟩
  case hgr =>
    rintro r W W' ⟨d, h1, h2, h3, h4, h5, h6⟩ hw
    exact ⟨d, h1, h2.on hw, row_on h3 hw, row_on h4 hw, row_on h5 hw, h6.on hw⟩
  case h0 =>
    intro L' hp hs
    exact ⟨[], ris_one h.tx hp hLp hs hLr, h, hN, hR, hCX, fun _ _ h _ => h⟩
  case assign =>
    intro l x W K hK
    simp only [Try.f29, rfA1, Option.bind, Option.or] at has
    injection has with has
    subst has
    gi_wp2
    exact hK
  case body =>
    rintro l x r W hsz ⟨d, h1, h2, h3, h4, h5, h6⟩
    refine gB1 G T N RD CX rd x.1 x.2 d r l _ (by omega) hc u0 u1 u11 u12 u13 u14 u15 u16 u17 u18 u19 u20 u21 u22 u23 u24 u25 u26 u27 u28 u29 u33 u34 u35 u36 u37 u38 u39 u40 u41 u42 u43 u44 u45 u46 u47 u48 u49 u50 u51 u52 u53 u54 u55 u56 u57 u58 u59 u60 u61 u62 u63 u64 u65 u66 u67 u68 u69 u70 u71 u72 u73 u74 u75 u76 u77 u78 u79 u80 u81 u82 u83 u84 u85 u86 u87 u88 u89 u90 u91 u92 u93 u94 u95 u96 u97 u98 u99 u100 u101 u102 u103 u104 u105 u106 u107 u108 u109 u110 u111 u112 u113 u114 u115 u116 u117 u118 u119 u120 u121 u122 u123 u124 u125 u126 u127 u128 u129 u130 u131 u132 u133 u134 u135 u136 u137 u138 u139 u140 u141 u142 u143 u144 u145 u146 u147 u148 u149 u150 u151 u152 u153 u154 u155 u156 h2 h1 hlm hmx h3 h4 hNR wN ?_ ?_
    · intro a' W' g1 g2 g3 g4
      have hb : ∀ z, z = N → ∃ c' t', W.heap[z]? = some (.cells c' t' (0, 0)) := fun z e => by subst e; exact ⟨_, _, h3⟩
      refine ⟨keeps g4 hb, fun k o hk ho => g4.row ho (fun e => by subst e; omega), d ++ [x], by simpa using h1, g1, g2, g3, row_in g4 h5 (fun z e => by subst e; exact ⟨_, _, h3, by decide⟩), h6.next g4 hb⟩
    · intro a' W' g1 g2 g3 hrd g4
      have hb : ∀ z, z = N → ∃ c' t', W.heap[z]? = some (.cells c' t' (0, 0)) := fun z e => by subst e; exact ⟨_, _, h3⟩
      exact ⟨keeps g4 hb, rfl, hrd, g1, g2, g3, row_in g4 h5 (fun z e => by subst e; exact ⟨_, _, h3, by decide⟩), h6.next g4 hb⟩
  case done =>
    rintro D W hD ⟨d, h1, h2, h3, h4, h5, h6⟩ hd'
    rw [List.append_nil] at h1
    exact (HR.out D W (d.length : Nat) hD h2 h3 h4 h5 (.inl (by rw [h1, hlm])) h6 hd').1
  case stop =>
    rintro D cd W hD ⟨rfl, h1, h2, h3, h4, h5, h6⟩ hd'
    exact wpIn_exit (HR.out D W G.o.nn hD h2 h3 h4 h5 (.inr ⟨h1, rfl⟩) h6 hd').2
theorem gR2 {W0 Wb : World} (G : Gc) (T : Ix.Tab) (i N TU C Q2 cap CX : Nat) (ds : List Deferred) {sg c : Code} (has : (Try.f29.body.bind rfA2) = some sg) (hc : (Try.f29.body.bind rfB2) = some c) (u0 u1 u7 u8 u9 u10 u14 u15 u16 u17 u18 u19 u20 u21 u22 u23 u24 u25 u26 u27 u28 u29 u30 u31 u32 u33 u34 u35 u36 u37 u38 u39 u40 u41 u42 u43 u44 u45 u46 u47 u48 u49 u50 u51 u52 u53 u54 u55 u56 u57 u58 u59 u60 u61 u62 u63 u64 u65 u66 u67 u68 u69 u70 u71 u72 u73 u74 u75 u76 u77 u78 u79 u80 u81 u82 u83 u84 u85 u86 u87 u88 u89 u90 u91 u92 u94 u95 u96 u97 u98 u99 u100 u101 u102 u103 u104 u105 u106 u107 u108 u109 u110 u111 u112 u113 u114 u115 u116 u117 u118 u119 u120 u121 u122 u123 u124 u125 u126 u127 u128 u129 u130 u131 u132 u133 u134 u135 u136 u137 u138 u139 u140 u141 u142 u143 u144 u145 u146 u147 u148 u149 u150 u151 u152 u153 u154 u155 u156 : Value)
    (h : Gs W0 G T Wb) (hlm : G.L.length = G.m) (hmx : G.m ≤ 131072) (hLp : G.L.Perm (us T G.n)) (hLr : Ris G.L) (hN : Wb.heap[N]? = some (.cells #[.int .i64 0] 3 (0, 0))) (hU : Wb.heap[TU]? = some (.cells #[.bool false] 4 (0, 0))) (hUR : TU ≠ G.RC) (wN : W0.heap.size ≤ N) (wU : W0.heap.size ≤ TU)
    (hF : Ix.Fd G.n (hm G.n) T G.o.ky i) (k0 : 0 ≤ G.o.ky) (k1 : G.o.ky ≤ 18446744073709551615)
    (hg : Rg Wb C Q2 G.n cap G.room G.T0)
    (hCX : Wb.heap[CX]? = some (.cells #[.pointer (some ⟨G.X, 0, none⟩)] 22 (0, 0)))
    {Q : Exit → Act → World → Prop}
    (hr1 : ∀ (D : Nat) (W : World), Wb.heap.size ≤ D → Gs W0 G (tu G T i G.L).2 W → W.heap[N]? = some (.cells #[.int .i64 (G.m : Nat)] 3 (0, 0)) → W.heap[TU]? = some (.cells #[.bool (tu G T i G.L).1] 4 (0, 0)) → Rg W C Q2 G.n cap G.room G.T0 → Kd Wb W → W.heap[D]? = some (.deferred (some [])) → Q .normal { tmps := #[u0, u1, .pointer (some ⟨G.B0, 0, none⟩), .pointer (some ⟨G.B1, 0, none⟩), .pointer (some ⟨G.RC, 0, none⟩), .pointer (some ⟨G.WC, 0, none⟩), .func (.func 35) #[] #[.pointer (some ⟨CX, 0, none⟩)], u7, u8, u9, u10, .pointer (some ⟨N, 0, none⟩), .pointer (some ⟨TU, 0, none⟩), .pointer (some ⟨C, 0, none⟩), u14, u15, u16, u17, u18, u19, u20, u21, u22, u23, u24, u25, u26, u27, u28, u29, u30, u31, u32, u33, u34, u35, u36, u37, u38, u39, u40, u41, u42, u43, u44, u45, u46, u47, u48, u49, u50, u51, u52, u53, u54, u55, u56, u57, u58, u59, u60, u61, u62, u63, u64, u65, u66, u67, u68, u69, u70, u71, u72, u73, u74, u75, u76, u77, u78, u79, u80, u81, u82, u83, u84, u85, u86, u87, u88, u89, u90, u91, u92, .func (.func 35) #[] #[.pointer (some ⟨CX, 0, none⟩)], u94, u95, u96, u97, u98, u99, u100, u101, u102, u103, u104, u105, u106, u107, u108, u109, u110, u111, u112, u113, u114, u115, u116, u117, u118, u119, u120, u121, u122, u123, u124, u125, u126, u127, u128, u129, u130, u131, u132, u133, u134, u135, u136, u137, u138, u139, u140, u141, u142, u143, u144, u145, u146, u147, u148, u149, u150, u151, u152, u153, u154, u155, u156], defers := { target := .collected D, args := #[] } :: ds } W) :
    (Code.rangeFunc (.tmp 93) #[94, 95] sg c).wpIn Fence.wide 5 Try.prog Q { tmps := #[u0, u1, .pointer (some ⟨G.B0, 0, none⟩), .pointer (some ⟨G.B1, 0, none⟩), .pointer (some ⟨G.RC, 0, none⟩), .pointer (some ⟨G.WC, 0, none⟩), .func (.func 35) #[] #[.pointer (some ⟨CX, 0, none⟩)], u7, u8, u9, u10, .pointer (some ⟨N, 0, none⟩), .pointer (some ⟨TU, 0, none⟩), .pointer (some ⟨C, 0, none⟩), u14, u15, u16, u17, u18, u19, u20, u21, u22, u23, u24, u25, u26, u27, u28, u29, u30, u31, u32, u33, u34, u35, u36, u37, u38, u39, u40, u41, u42, u43, u44, u45, u46, u47, u48, u49, u50, u51, u52, u53, u54, u55, u56, u57, u58, u59, u60, u61, u62, u63, u64, u65, u66, u67, u68, u69, u70, u71, u72, u73, u74, u75, u76, u77, u78, u79, u80, u81, u82, u83, u84, u85, u86, u87, u88, u89, u90, u91, u92, .func (.func 35) #[] #[.pointer (some ⟨CX, 0, none⟩)], u94, u95, u96, u97, u98, u99, u100, u101, u102, u103, u104, u105, u106, u107, u108, u109, u110, u111, u112, u113, u114, u115, u116, u117, u118, u119, u120, u121, u122, u123, u124, u125, u126, u127, u128, u129, u130, u131, u132, u133, u134, u135, u136, u137, u138, u139, u140, u141, u142, u143, u144, u145, u146, u147, u148, u149, u150, u151, u152, u153, u154, u155, u156], defers := ds } Wb := by
  have HR := hid hr1
  clear hr1
  have wW := h.kp.size
  have bN := row_lt hN
  have bU := row_lt hU
  have bX := h.lx.ltX
  have bP := h.lx.ltP
  refine range_all (by omega) (CX := CX) (X := G.X) (P := G.P) (m := G.n) (room := G.room) (T := T) rfl rfl (row_cell hCX 0) h.lx
    (fun r W => ∃ d, d ++ r = G.L ∧ Gs W0 G (tu G T i d).2 W ∧ W.heap[N]? = some (.cells #[.int .i64 (d.length : Nat)] 3 (0, 0)) ∧ W.heap[TU]? = some (.cells #[.bool (tu G T i d).1] 4 (0, 0)) ∧ Rg W C Q2 G.n cap G.room G.T0 ∧ Kd Wb W)
    (fun cd W => False)
    ?hI ?hIx ?hgr ?h0
    (fun x => { tmps := #[u0, u1, .pointer (some ⟨G.B0, 0, none⟩), .pointer (some ⟨G.B1, 0, none⟩), .pointer (some ⟨G.RC, 0, none⟩), .pointer (some ⟨G.WC, 0, none⟩), .func (.func 35) #[] #[.pointer (some ⟨CX, 0, none⟩)], u7, u8, u9, u10, .pointer (some ⟨N, 0, none⟩), .pointer (some ⟨TU, 0, none⟩), .pointer (some ⟨C, 0, none⟩), .int .u64 x.1, .int .i64 x.2, u16, u17, u18, u19, u20, u21, u22, u23, u24, u25, u26, u27, u28, u29, u30, u31, u32, u33, u34, u35, u36, u37, u38, u39, u40, u41, u42, u43, u44, u45, u46, u47, u48, u49, u50, u51, u52, u53, u54, u55, u56, u57, u58, u59, u60, u61, u62, u63, u64, u65, u66, u67, u68, u69, u70, u71, u72, u73, u74, u75, u76, u77, u78, u79, u80, u81, u82, u83, u84, u85, u86, u87, u88, u89, u90, u91, u92, .func (.func 35) #[] #[.pointer (some ⟨CX, 0, none⟩)], .int .u64 x.1, .int .i64 x.2, u96, u97, u98, u99, u100, u101, u102, u103, u104, u105, u106, u107, u108, u109, u110, u111, u112, u113, u114, u115, u116, u117, u118, u119, u120, u121, u122, u123, u124, u125, u126, u127, u128, u129, u130, u131, u132, u133, u134, u135, u136, u137, u138, u139, u140, u141, u142, u143, u144, u145, u146, u147, u148, u149, u150, u151, u152, u153, u154, u155, u156], defers := [] })
    ?assign ?body ?done ?stop
  case hI =>
    rintro r W W' row ⟨d, h1, h2, h3, h4, h5, h6⟩ hg hr
    exact ⟨d, h1, Gs.blind wW W W' row h2 hg hr, blind_row3 W W' row h3 hg hr, blind_row3 W W' row h4 hg hr, Rg.blind (B := Wb.heap.size) W W' row h5 hg hr, Kd.blind W W' row h6 hg hr⟩
  case hIx => rintro cd W W' row hf; exact hf.elim
  case hgr =>
    rintro r W W' ⟨d, h1, h2, h3, h4, h5, h6⟩ hw
    exact ⟨d, h1, h2.on hw, row_on h3 hw, row_on h4 hw, h5.kp (Kp.ofBelow (fun _ => False) hw) (fun h => h) (fun h => h), h6.on hw⟩
  case h0 =>
    intro L' hp hs
    exact ⟨[], ris_one h.tx hp hLp hs hLr, h, hN, hU, hg, fun _ _ h _ => h⟩
  case assign =>
    intro l x W K hK
    simp only [Try.f29, rfA2, Option.bind, Option.or] at has
    injection has with has
    subst has
    gi_wp2
    exact hK
  case body =>
    rintro l x r W hsz ⟨d, h1, h2, h3, h4, h5, h6⟩
    refine gB2 G T i N TU C CX x.1 x.2 d r l _ (by omega) hc u0 u1 u7 u8 u9 u10 u16 u17 u18 u19 u20 u21 u22 u23 u24 u25 u26 u27 u28 u29 u30 u31 u32 u33 u34 u35 u36 u37 u38 u39 u40 u41 u42 u43 u44 u45 u46 u47 u48 u49 u50 u51 u52 u53 u54 u55 u56 u57 u58 u59 u60 u61 u62 u63 u64 u65 u66 u67 u68 u69 u70 u71 u72 u73 u74 u75 u76 u77 u78 u79 u80 u81 u82 u83 u84 u85 u86 u87 u88 u89 u90 u91 u92 u96 u97 u98 u99 u100 u101 u102 u103 u104 u105 u106 u107 u108 u109 u110 u111 u112 u113 u114 u115 u116 u117 u118 u119 u120 u121 u122 u123 u124 u125 u126 u127 u128 u129 u130 u131 u132 u133 u134 u135 u136 u137 u138 u139 u140 u141 u142 u143 u144 u145 u146 u147 u148 u149 u150 u151 u152 u153 u154 u155 u156 h2 h1 hlm hmx h3 h4 hUR wN wU hF k0 k1 ?_
    intro a' W' g1 g2 g3 g4
    obtain ⟨c1, e1⟩ := h2.lx.isP'
    obtain ⟨cs, e2, _⟩ := h5.pl
    have hb : ∀ z, ((z = G.X ∨ z = G.P) ∨ z = TU ∨ z = N) → ∃ c' t', W.heap[z]? = some (.cells c' t' (0, 0)) ∧ t' ≠ 33 ∧ t' ≠ 74 := by
      rintro z ((e | e) | e | e)
      · subst e; exact ⟨_, _, h2.lx.row, by decide, by decide⟩
      · subst e; exact ⟨_, _, e1, by decide, by decide⟩
      · subst e; exact ⟨_, _, h4, by decide, by decide⟩
      · subst e; exact ⟨_, _, h3, by decide, by decide⟩
    have nb : ∀ {g : Nat} {c' : Array Value} {t : TypeId}, W.heap[g]? = some (.cells c' t (0, 0)) → (t = 33 ∨ t = 74) → ¬ ((g = G.X ∨ g = G.P) ∨ g = TU ∨ g = N) := fun {g c' t} q1 q2 q3 => by
      obtain ⟨c'', t', r1, r2, r3⟩ := hb g q3
      rw [q1] at r1; injection r1 with r1; injection r1 with _ r1 _
      rcases q2 with q2 | q2
      · exact r2 (r1 ▸ q2)
      · exact r3 (r1 ▸ q2)
    refine ⟨keeps g4 (fun z hz => by obtain ⟨c', t', r1, _⟩ := hb z hz; exact ⟨c', t', r1⟩), fun k o hk ho => g4.row ho ?_, d ++ [x], by simpa using h1, g1, g2, g3, h5.kp g4 (nb h5.row (.inl rfl)) (nb e2 (.inr rfl)), h6.next g4 (fun z hz => by obtain ⟨c', t', r1, _⟩ := hb z hz; exact ⟨c', t', r1⟩)⟩
    rintro ((e | e) | e | e) <;> omega
  case done =>
    rintro D W hD ⟨d, h1, h2, h3, h4, h5, h6⟩ hd'
    rw [List.append_nil] at h1
    rw [h1] at h2 h4
    exact HR.out D W hD h2 (h3.trans (by rw [h1, hlm])) h4 h5 h6 hd'
  case stop =>
    rintro D cd W hD hf; exact hf.elim
end Go.Proofs.Ythidnipmkffilaa
