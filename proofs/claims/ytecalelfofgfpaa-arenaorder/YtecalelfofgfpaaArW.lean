/-
  ArenaOrder: the walk.
-/
import Derived.Test.YtecalelfofgfpaaArV
namespace Go.Proofs.Ytecalelfofgfpaa
open Go.RowKit Go.Deep
set_option linter.unusedVariables false
set_option linter.unusedSimpArgs false

structure Stay (p : Prop) : Prop where
  go : p
theorem stop_at {ops : Array Oper} {rest : List Oper} {o : Oper} {a : Act} {w : World} {Q : Exit → Act → World → Prop} (d : Nat) (hd : o.dst = some d) (h : Stay (wpList Try.prog ops Q (o :: rest) a w)) : wpList Try.prog ops Q (o :: rest) a w := h.go
/-- a step. -/
structure OpV where
  k : Int
  q : Int
  wh : Int
  v : Int
  r : Bool
  hi : Int
  hl : Int
def orow (x : OpV) : Array Value := #[.int .i64 x.k, .int .i64 x.q, .int .i64 x.wh, .int .i64 x.v, .bool x.r, .int .u32 x.hi, .int .u32 x.hl]
/-- steps that came in. -/
def Opz (w : World) (p : Option Addr) (xs : List OpV) : Prop := ∀ i (h : i < xs.length), ∃ b o, p = some ⟨b, o, none⟩ ∧ b < w.heap.size ∧ ∀ j, j < 7 → w.cell? ⟨b, o + i * 7 + j, none⟩ = (orow xs[i])[j]?
theorem Opz.cells {w : World} {b o i : Nat} {x : OpV} (h : ∀ j, j < 7 → w.cell? ⟨b, o + i * 7 + j, none⟩ = (orow x)[j]?) :
    w.cell? ⟨b, o + i * 7, none⟩ = some (.int .i64 x.k) ∧ w.cell? ⟨b, o + i * 7 + 1, none⟩ = some (.int .i64 x.q) ∧ w.cell? ⟨b, o + i * 7 + 2, none⟩ = some (.int .i64 x.wh) ∧ w.cell? ⟨b, o + i * 7 + 3, none⟩ = some (.int .i64 x.v) ∧ w.cell? ⟨b, o + i * 7 + 4, none⟩ = some (.bool x.r) ∧ w.cell? ⟨b, o + i * 7 + 5, none⟩ = some (.int .u32 x.hi) ∧ w.cell? ⟨b, o + i * 7 + 6, none⟩ = some (.int .u32 x.hl) :=
  ⟨h 0 (by decide), h 1 (by decide), h 2 (by decide), h 3 (by decide), h 4 (by decide), h 5 (by decide), h 6 (by decide)⟩
/-- the law's state. -/
structure Ls (W : World) (A Q : Nat) (H : List (Nat × Nat)) (dead loose : Nat) (wv : Value) (w : World) : Prop where
  lw : Lw W A Q H dead loose w
  wt : Wt W.heap.size w wv H
theorem Ls.on {W : World} {A Q : Nat} {H : List (Nat × Nat)} {dead loose : Nat} {wv : Value} {w w' : World} (h : Ls W A Q H dead loose wv w) (hb : Below w.heap.size w w') : Ls W A Q H dead loose wv w' := ⟨h.lw.on hb, h.wt.on hb⟩
theorem Wt.hr {base : Nat} {w : World} {p : Option Addr} {c : Nat} {l : List (Nat × Nat)} (h : Wt base w (.slice p l.length c) l) : Hr w p l := by
  obtain ⟨p9, c9, e9, hr9⟩ := h.form
  obtain ⟨rfl, _⟩ : p = p9 ∧ c = c9 := by simpa using e9
  exact hr9
theorem Lw.fx {W : World} {A Q : Nat} {H : List (Nat × Nat)} {dead loose : Nat} {w w' : World} (h : Lw W A Q H dead loose w) (k : Fx (MT 34) W.heap.size w w') : Lw W A Q H dead loose w' := by
  obtain ⟨⟨s, L, F, h1, h2⟩, h3⟩ := h
  refine ⟨⟨s, L, F, ⟨⟨k.ar h1.aq.ar ?_, h1.aq.qlow, k.obj _ _ h1.aq.qr ?_⟩, h1.pq⟩, h2⟩, h3.trans k.bel⟩
  · rintro c t ht ⟨c', fr, e⟩
    simp at e
    exact n34 (e.2.1 ▸ ht)
  · rintro ⟨c', fr, e⟩
    simp at e
set_option maxHeartbeats 4000000 in
set_option maxRecDepth 100000 in
theorem order_walk (p : Option Addr) (cap : Nat) (xs : List OpV) (W : World) (hV : Opz W p xs) (hn : xs.length ≤ maxLen) (hx : ∀ x ∈ xs, -9223372036854775808 ≤ x.wh ∧ x.wh < 9223372036854775808) :
    Calls Try.prog 6 #[.slice p xs.length cap] W fun e w' => e = .returned (.bool true) ∧ Below W.heap.size W w' := by
  have NA := hid (new_any 12 W (by decide) (by decide))
  have HV := hid hV
  have HN := hid (show xs.length ≤ 9223372036854775807 from hn)
  have HXS := hid hx
  have NQ := hid (show ∀ w', Ar W.heap.size w' W.heap.size ⟨12, 0, [], nd0, none⟩ → _ from fun w' h => newq_any h)
  clear hV hn hx
  go_enter Try.func6, Try.ntmps6
  go_wp2_with (first | (go_at_call 13; refine (NA.out).mono ?_; rintro e w1 ⟨rfl, har, hb⟩; have HA := hid har; have HB0 := hid hb; clear har hb; refine Hid.out ?_))
  refine hid ?_
  go_wp2_with (first | (go_at_call 24; refine (NQ.out _ HA.out).mono ?_; rintro e w2 ⟨rfl, haq, hb⟩; have HQ := hid haq; have HB1 := hid (btrB HB0.out HB0.out.size hb); clear haq hb; refine Hid.out ?_))
  obtain ⟨Q, hQ⟩ : ∃ Q, w1.heap.size = Q := ⟨_, rfl⟩
  rw [hQ] at HQ
  have HQ1 := hid hQ
  rw [hQ]
  clear hQ HA NA NQ
  have HS := hid (show Ls W W.heap.size Q [] 0 0 (.slice (some ⟨w2.heap.size, 0, none⟩) 0 0) (w2.alloc (.cells #[] 34)) from by
    have hpq : Pq Q 12 ⟨12, 0, [], nd0, none⟩ [] [] := ⟨fun i hi => by simp at hi, List.nodup_nil, fun b hb => by simp at hb, trivial, List.nodup_nil, fun b hb => by simp at hb, fun b hb => by simp at hb, rfl, rfl, by decide, by decide⟩
    refine ⟨⟨⟨_, [], [], ⟨HQ.out.on (ball _ _), hpq⟩, rfl, rfl, rfl⟩, btrB HB1.out HB1.out.size (ball _ _)⟩, Or.inr ⟨w2.heap.size, 0, 0, #[], rfl, HB1.out.size, heap_alloc_new _ _, by simp, by simp, Nat.zero_le _, fun i hi => by simp at hi⟩⟩)
  refine hid ?_
  go_wp2_with fail
  go_loopw [6, 7, 8, 9] (fun wv dv lv iv wr => ∃ (k dead loose : Nat) (H : List (Nat × Nat)), k ≤ xs.length ∧ iv = .int .i64 k ∧ dv = .int .i64 dead ∧ lv = .int .i64 loose ∧ Hid (Ls W W.heap.size Q H dead loose wv wr)) (fun _ _ _ iv _ => xs.length - (intOf iv).toNat)
  case atStart => exact ⟨0, 0, 0, [], Nat.zero_le _, rfl, rfl, rfl, HS⟩
  case round =>
    obtain ⟨k, dead, loose, H, hk, rfl, rfl, rfl, HL⟩ := hrel
    clear HS HQ HB0 HB1
    by_cases hlt : k < xs.length
    · obtain ⟨vb, vo, rfl, hvb, hv⟩ := HV.out k hlt
      have hxb := HXS.out _ (List.getElem_mem hlt)
      obtain ⟨x, hx⟩ : ∃ x, xs[k] = x := ⟨_, rfl⟩
      rw [hx] at hv hxb
      obtain ⟨v0, v1, v2, v3, v4, v5, v6⟩ := Opz.cells (w := wr) (fun j hj => (HL.out.lw.bel.cell hvb).trans (hv j hj))
      obtain ⟨wp, wc, hwv, hhr⟩ := HL.out.wt.form
      subst hwv
      have HHR := hid hhr
      have i3 : (k : Int) < (xs.length : Int) := by omega
      have i4 : (0 : Int) ≤ (k : Int) := by omega
      have i5 : (k : Int) < 9223372036854775807 := by have := HN.out; omega
      have hsum := HL.out.lw.sum
      have i6 : (H.length : Int) ≤ 12 := by omega
      have i7 : (dead : Int) ≤ 12 := by omega
      have i8 : (loose : Int) ≤ 12 := by omega
      have HSUM := hid hsum
      have HLT := hid hlt
      have HXB := hid hxb
      clear hx hv hvb hlt hxb hsum hhr
      go_wp2_with (first | (refine stop_at 44 (by with_reducible rfl) ?_))
      rename_i K1 A1 K0 A0
      obtain ⟨O, hO⟩ : ∃ O, wr.heap.size = O := ⟨_, rfl⟩
      obtain ⟨P, hP⟩ : ∃ P, wr.heap.size + 1 = P := ⟨_, rfl⟩
      have HOP := hid (show ((wr.alloc (.cells (orow x) 37)).alloc (.cells #[.int .u32 0, .int .u32 0] 34)).heap[O]? = some (.cells (orow x) 37 (0, 0)) ∧ ((wr.alloc (.cells (orow x) 37)).alloc (.cells #[.int .u32 0, .int .u32 0] 34)).heap[P]? = some (.cells #[.int .u32 0, .int .u32 0] 34 (0, 0)) from by
        rw [← hO, ← hP]
        refine ⟨row_on (heap_alloc_new _ _) (ball _ _), ?_⟩
        rw [show wr.heap.size + 1 = (wr.alloc (.cells (orow x) 37)).heap.size by simp]
        exact heap_alloc_new _ _)
      have HX := hid ((HL.out.on (ball wr (.cells (orow x) 37))).on (ball _ (.cells #[.int .u32 0, .int .u32 0] 34)))
      have HHX := hid ((HHR.out.on (ball wr (.cells (orow x) 37))).on (ball _ (.cells #[.int .u32 0, .int .u32 0] 34)))
      have HWP := hid (show W.heap.size ≤ P from by rw [← hP]; exact Nat.le_succ_of_le HL.out.lw.bel.size)
      have HO2 := hid hO
      have HP2 := hid hP
      clear v0 v1 v2 v3 v4 v5 v6
      have REST1 : ∀ (pi pl : Nat) (wX : World), Ls W W.heap.size Q H dead loose (.slice wp H.length wc) wX → wX.heap[O]? = some (.cells (orow x) 37 (0, 0)) → wX.heap[P]? = some (.cells #[.int .u32 pi, .int .u32 pl] 34 (0, 0)) → (H = [] ∨ ∃ kk, ∃ h : kk < H.length, H[kk] = (pi, pl)) → ∀ (s12 s44 s45 s46 s47 s48 s49 s50 s51 s52 s53 s54 s55 s56 s57 s58 s59 s60 : Value), K1 { tmps := #[Value.slice (some ⟨vb, vo, none⟩) xs.length cap, undef, u2, Value.pointer (some ⟨W.heap.size, 0, none⟩), Value.int IntKind.i64 0, Value.pointer (some ⟨Q, 0, none⟩), Value.slice wp H.length wc, Value.int IntKind.i64 (dead : Nat), Value.int IntKind.i64 (loose : Nat), Value.int IntKind.i64 (k : Nat), Value.pointer (some ⟨O, 0, none⟩), Value.pointer (some ⟨P, 0, none⟩), s12, u13, u14, u15, u16, Value.tuple #[Value.pointer (some ⟨W.heap.size, 0, none⟩), Value.int IntKind.i64 0], Value.tuple #[Value.pointer (some ⟨W.heap.size, 0, none⟩), Value.int IntKind.i64 0], Value.pointer (some ⟨W.heap.size, 0, none⟩), Value.int IntKind.i64 0, Value.pointer (some ⟨W.heap.size, 0, none⟩), Value.bool false, Value.bool false, Value.int IntKind.i64 0, Value.bool false, Value.bool false, Value.pointer (some ⟨W.heap.size, 0, none⟩), Value.pointer (some ⟨Q, 0, none⟩), Value.pointer (some ⟨Q, 0, none⟩), Value.bool false, Value.slice (some ⟨w2.heap.size, 0, none⟩) 0 0, Value.int IntKind.i64 (k : Nat), Value.slice (some ⟨vb, vo, none⟩) xs.length cap, Value.int IntKind.i64 (xs.length : Nat), Value.bool true, u36, u37, Value.slice (some ⟨vb, vo, none⟩) xs.length cap, Value.int IntKind.i64 (k : Nat), Value.pointer (some ⟨vb, vo + k * 7, none⟩), Value.agg #[Value.int IntKind.i64 x.k, Value.int IntKind.i64 x.q, Value.int IntKind.i64 x.wh, Value.int IntKind.i64 x.v, Value.bool x.r, Value.int IntKind.u32 x.hi, Value.int IntKind.u32 x.hl], Value.agg #[Value.int IntKind.u32 0, Value.int IntKind.u32 0], Value.slice wp H.length wc, s44, s45, s46, s47, s48, s49, s50, s51, s52, s53, s54, s55, s56, s57, s58, s59, s60, u61, u62, u63, u64, u65, u66, u67, u68, u69, u70, u71, u72, u73, u74, u75, u76, u77, u78, u79, u80, u81, u82, u83, u84, u85, u86, u87, u88, u89, u90, u91, u92, u93, u94, u95, u96, u97, u98, u99, u100, u101, u102, u103, u104, u105, u106, u107, u108, u109, u110, u111, u112, u113, u114, u115, u116, u117, u118, u119, u120, u121, u122, u123, u124, u125, u126, u127, u128, u129, u130, u131, u132, u133, u134, u135, u136, u137, u138, u139, u140, u141, u142, u143, u144, u145, u146, u147, u148, u149, u150, u151, u152, u153, u154, u155, u156, u157, u158, u159, u160, u161, u162, u163, u164, u165, u166, u167, u168, u169, u170, u171, u172, u173, u174, u175, u176, u177, u178, u179, u180, u181, u182, u183, u184, u185, u186, u187, u188, u189, u190, u191, u192], defers := [] } wX := by
        intro pi pl wX hLs hOr hPr hpk s12 s44 s45 s46 s47 s48 s49 s50 s51 s52 s53 s54 s55 s56 s57 s58 s59 s60
        have HLs := hid hLs
        have HOr := hid hOr
        have HPr := hid hPr
        have HPK := hid hpk
        clear hLs hOr hPr hpk A0
        have o0 : wX.cell? ⟨O, 0, none⟩ = some (.int .i64 x.k) := row_cell HOr.out 0
        refine A1 _ _ ?_
        go_wp2_with (first | (refine stop_at 61 (by with_reducible rfl) ?_))
        rename_i K2 A2 K3 A3
        have REST2 : ∀ (dead2 loose2 : Nat) (H2 : List (Nat × Nat)) (wp2 : Option Addr) (wc2 : Nat) (wY : World), Ls W W.heap.size Q H2 dead2 loose2 (.slice wp2 H2.length wc2) wY → ∀ (r13 r14 r15 r16 r61 r62 r63 r64 r65 r66 r67 r68 r69 r70 r71 r72 r73 r74 r75 r76 r77 r78 r79 r80 r81 r82 r83 r84 r85 r86 r87 r88 r89 r90 r91 r92 r93 r94 r95 r96 r97 r98 r99 r100 r101 r102 r103 r104 r105 r106 r107 r108 r109 r110 r111 r112 r113 r114 r115 r116 r117 r118 r119 r120 r121 r122 r123 r124 r125 r126 r127 r128 r129 r130 r131 r132 r133 r134 r135 r136 r137 r138 r139 r140 r141 r142 r143 r144 r145 r146 r147 r148 r149 r150 r151 r152 r153 r154 r155 : Value), K2 { tmps := #[Value.slice (some ⟨vb, vo, none⟩) xs.length cap, undef, u2, Value.pointer (some ⟨W.heap.size, 0, none⟩), Value.int IntKind.i64 0, Value.pointer (some ⟨Q, 0, none⟩), .slice wp2 H2.length wc2, .int .i64 (dead2 : Nat), .int .i64 (loose2 : Nat), Value.int IntKind.i64 (k : Nat), Value.pointer (some ⟨O, 0, none⟩), Value.pointer (some ⟨P, 0, none⟩), s12, r13, r14, r15, r16, Value.tuple #[Value.pointer (some ⟨W.heap.size, 0, none⟩), Value.int IntKind.i64 0], Value.tuple #[Value.pointer (some ⟨W.heap.size, 0, none⟩), Value.int IntKind.i64 0], Value.pointer (some ⟨W.heap.size, 0, none⟩), Value.int IntKind.i64 0, Value.pointer (some ⟨W.heap.size, 0, none⟩), Value.bool false, Value.bool false, Value.int IntKind.i64 0, Value.bool false, Value.bool false, Value.pointer (some ⟨W.heap.size, 0, none⟩), Value.pointer (some ⟨Q, 0, none⟩), Value.pointer (some ⟨Q, 0, none⟩), Value.bool false, Value.slice (some ⟨w2.heap.size, 0, none⟩) 0 0, Value.int IntKind.i64 (k : Nat), Value.slice (some ⟨vb, vo, none⟩) xs.length cap, Value.int IntKind.i64 (xs.length : Nat), Value.bool true, u36, u37, Value.slice (some ⟨vb, vo, none⟩) xs.length cap, Value.int IntKind.i64 (k : Nat), Value.pointer (some ⟨vb, vo + k * 7, none⟩), Value.agg #[Value.int IntKind.i64 x.k, Value.int IntKind.i64 x.q, Value.int IntKind.i64 x.wh, Value.int IntKind.i64 x.v, Value.bool x.r, Value.int IntKind.u32 x.hi, Value.int IntKind.u32 x.hl], Value.agg #[Value.int IntKind.u32 0, Value.int IntKind.u32 0], Value.slice wp H.length wc, s44, s45, s46, s47, s48, s49, s50, s51, s52, s53, s54, s55, s56, s57, s58, s59, s60, r61, r62, r63, r64, r65, r66, r67, r68, r69, r70, r71, r72, r73, r74, r75, r76, r77, r78, r79, r80, r81, r82, r83, r84, r85, r86, r87, r88, r89, r90, r91, r92, r93, r94, r95, r96, r97, r98, r99, r100, r101, r102, r103, r104, r105, r106, r107, r108, r109, r110, r111, r112, r113, r114, r115, r116, r117, r118, r119, r120, r121, r122, r123, r124, r125, r126, r127, r128, r129, r130, r131, r132, r133, r134, r135, r136, r137, r138, r139, r140, r141, r142, r143, r144, r145, r146, r147, r148, r149, r150, r151, r152, r153, r154, r155, u156, u157, u158, u159, u160, u161, u162, u163, u164, u165, u166, u167, u168, u169, u170, u171, u172, u173, u174, u175, u176, u177, u178, u179, u180, u181, u182, u183, u184, u185, u186, u187, u188, u189, u190, u191, u192], defers := [] } wY := by
          intro dead2 loose2 H2 wp2 wc2 wY hLs2 r13 r14 r15 r16 r61 r62 r63 r64 r65 r66 r67 r68 r69 r70 r71 r72 r73 r74 r75 r76 r77 r78 r79 r80 r81 r82 r83 r84 r85 r86 r87 r88 r89 r90 r91 r92 r93 r94 r95 r96 r97 r98 r99 r100 r101 r102 r103 r104 r105 r106 r107 r108 r109 r110 r111 r112 r113 r114 r115 r116 r117 r118 r119 r120 r121 r122 r123 r124 r125 r126 r127 r128 r129 r130 r131 r132 r133 r134 r135 r136 r137 r138 r139 r140 r141 r142 r143 r144 r145 r146 r147 r148 r149 r150 r151 r152 r153 r154 r155
          have hsm := hLs2.lw.sum
          obtain ⟨p9, c9, e9, hr9⟩ := hLs2.wt.form
          obtain ⟨rfl, rfl⟩ : wp2 = p9 ∧ wc2 = c9 := by simpa using e9
          have HL2 := hid hLs2
          have HR9 := hid hr9
          have j1 : (H2.length : Int) ≤ 12 := by omega
          have j2 : (dead2 : Int) ≤ 12 := by omega
          have j3 : (loose2 : Int) ≤ 12 := by omega
          have j4 : ((H2.length + dead2 + loose2 : Nat) : Int) = (H2.length : Int) + dead2 + loose2 := by omega
          have AL := hid hLs2.lw.all
          have HHL := hid (show H2.length ≤ 65536 by omega)
          clear hLs2 hr9 e9 hsm
          refine A2 _ _ ?_
          go_wp2_with (first | (go_at_call 33; refine (AL.out).mono ?_; rintro e w3 ⟨p3, c3, rfl, hr3, hb3⟩; have HR3 := hid hr3; have HB3 := hid hb3; clear hr3 hb3; refine Hid.out ?_))
          have SA := hid (same_hr (c := c3) (d := wc2) HR3.out (HR9.out.on HB3.out) HHL.out)
          clear AL
          refine hid ?_
          go_wp2_with (first | (go_at_call 32; refine (SA.out).mono ?_; rintro e w4 ⟨rfl, hb4⟩; have HB4 := hid (btr HB3.out hb4); clear hb4; refine Hid.out ?_))
          have LW4 := hid (HL2.out.lw.on HB4.out)
          have LV := hid LW4.out.live
          have DD := hid LW4.out.dead
          have LE := hid LW4.out.len
          have FR := hid LW4.out.free
          rw [j4] at LE FR
          clear SA HR3 HB3
          refine hid ?_
          go_wp2_with (first | (go_at_call 34; refine (LV.out).mono ?_; rintro e w9 ⟨rfl, rfl⟩) | (go_at_call 30; refine (DD.out).mono ?_; rintro e w9 ⟨rfl, rfl⟩) | (go_at_call 19; refine (LE.out).mono ?_; rintro e w9 ⟨rfl, rfl⟩) | (go_at_call 23; refine (FR.out).mono ?_; rintro e w5 ⟨rfl, hb5⟩; have HB5 := hid (btr HB4.out hb5); clear hb5; refine Hid.out ?_))
          have LW5 := hid (HL2.out.lw.on HB5.out)
          have LE5 := hid LW5.out.len
          rw [j4] at LE5
          clear LV DD LE FR LW4
          refine hid ?_
          go_wp2_with (first | (go_at_call 19; refine (LE5.out).mono ?_; rintro e w9 ⟨rfl, rfl⟩))
          go_roundw
          case rel => exact ⟨k + 1, dead2, loose2, H2, by have := HLT.out; omega, by go_num, rfl, rfl, hid (HL2.out.on HB5.out)⟩
          case measure => have := HLT.out; simp [intOf]; omega
        clear A2
        have RE2 := hid REST2
        clear REST2
        obtain ⟨xk, hxk⟩ : ∃ n, x.k = n := ⟨_, rfl⟩
        rw [hxk] at o0
        clear hxk
        by_cases h4 : xk = 4
        · subst h4
          have o3 : wX.cell? ⟨O, 3, none⟩ = some (.int .i64 x.v) := row_cell HOr.out 3
          by_cases hfull : H.length + dead + loose < 12
          · have i9 : (H.length : Int) + (dead : Int) + (loose : Int) < 12 := by omega
            have TK := hid (HLs.out.lw.take hfull x.v)
            clear hfull
            refine ⟨?_⟩
            go_wp2_with (first | (go_at_call 15; refine (TK.out).mono ?_; rintro e w3 ⟨hi, hl, rfl, ht, hkp⟩; have HT := hid (ht.on (ball w3 (.cells #[.int .u32 hi, .int .u32 hl] 34))); have HW3 := hid ((HLs.out.wt.kp hkp).on (ball w3 (.cells #[.int .u32 hi, .int .u32 hl] 34))); clear ht hkp; refine Hid.out ?_))
            have PU := hid HT.out.push
            have HZ := hid (heap_alloc_new w3 (.cells #[.int .u32 hi, .int .u32 hl] 34))
            clear TK o0 o3
            refine hid ?_
            go_wp2_with (first | (go_at_call 25; refine (PU.out).mono ?_; rintro e w4 ⟨rfl, hlw, hkq⟩; have HLW := hid hlw; have HW4 := hid (HW3.out.kq hkq); have HZ4 := hid (hkq.blk _ _ _ HZ.out n34 (by decide)); clear hlw hkq; refine Hid.out ?_))
            have z0 : w4.cell? ⟨w3.heap.size, 0, none⟩ = some (.int .u32 hi) := row_cell HZ4.out 0
            have z1 : w4.cell? ⟨w3.heap.size, 1, none⟩ = some (.int .u32 hl) := row_cell HZ4.out 1
            clear PU HT HW3 HZ
            refine hid ?_
            go_wp2_with (first | (at_builtin; refine own_w (by rfl) (.tmp 89) (.tmp 91) (by rfl) W.heap.size _ H (by rfl) w4 hi hl HW4.out (by rfl) (by have := HSUM.out; omega) HLW.out.bel.size ?_; intro v' w7 hwt hfx; have HW7 := hid hwt; have HLW7 := hid (HLW.out.fx hfx); clear hwt hfx; refine Hid.out ?_))
            obtain ⟨H2, hH2⟩ : ∃ H2, H ++ [(hi, hl)] = H2 := ⟨_, rfl⟩
            rw [hH2] at HW7 HLW7
            obtain ⟨p7, c7, hv7, _⟩ := HW7.out.form
            subst hv7
            clear hH2 z0 z1
            refine hid ?_
            go_wp2
            exact RE2.out dead loose H2 p7 c7 w7 ⟨HLW7.out, HW7.out⟩ _ _ _ _ _ _ _ _ _ _ _ _ _ _ _ _ _ _ _ _ _ _ _ _ _ _ _ _ _ _ _ _ _ _ _ _ _ _ _ _ _ _ _ _ _ _ _ _ _ _ _ _ _ _ _ _ _ _ _ _ _ _ _ _ _ _ _ _ _ _ _ _ _ _ _ _ _ _ _ _ _ _ _ _ _ _ _ _ _ _ _ _ _ _ _ _ _ _ _
          · have hfull2 : H.length + dead + loose = 12 := by have := HSUM.out; omega
            have i9 : (H.length : Int) + (dead : Int) + (loose : Int) = 12 := by omega
            have TK := hid (HLs.out.lw.full hfull2 x.v)
            clear hfull hfull2
            refine ⟨?_⟩
            go_wp2_with (first | (go_at_call 15; refine (TK.out).mono ?_; rintro e w3 ⟨rfl, hb3⟩; have HC := hid ((HLs.out.on hb3).on (ball w3 (.cells #[.int .u32 0, .int .u32 0] 34))); clear hb3; refine Hid.out ?_))
            clear TK o0 o3
            refine hid ?_
            go_wp2
            go_roundw
            case rel => exact ⟨k + 1, dead, loose, H, by have := HLT.out; omega, by go_num, rfl, rfl, hid (HC.out)⟩
            case measure => have := HLT.out; simp [intOf]; omega
        · have n4 : (xk == 4) = false := beq_eq_false_iff_ne.2 h4
          by_cases h0 : xk = 0
          · subst h0
            have o3 : wX.cell? ⟨O, 3, none⟩ = some (.int .i64 x.v) := row_cell HOr.out 3
            by_cases hfull : H.length + dead + loose < 12
            · have i9 : (H.length : Int) + (dead : Int) + (loose : Int) < 12 := by omega
              have TK := hid (HLs.out.lw.take hfull x.v)
              clear hfull
              refine ⟨?_⟩
              go_wp2_with (first | (go_at_call 15; refine (TK.out).mono ?_; rintro e w3 ⟨hi, hl, rfl, ht, hkp⟩; have HT := hid (ht.on (ball w3 (.cells #[.int .u32 hi, .int .u32 hl] 34))); have HW3 := hid ((HLs.out.wt.kp hkp).on (ball w3 (.cells #[.int .u32 hi, .int .u32 hl] 34))); clear ht hkp; refine Hid.out ?_))
              have PU := hid HT.out.push
              have HZ := hid (heap_alloc_new w3 (.cells #[.int .u32 hi, .int .u32 hl] 34))
              clear TK o0 o3
              refine hid ?_
              go_wp2_with (first | (go_at_call 25; refine (PU.out).mono ?_; rintro e w4 ⟨rfl, hlw, hkq⟩; have HLW := hid hlw; have HW4 := hid (HW3.out.kq hkq); have HZ4 := hid (hkq.blk _ _ _ HZ.out n34 (by decide)); clear hlw hkq; refine Hid.out ?_))
              have z0 : w4.cell? ⟨w3.heap.size, 0, none⟩ = some (.int .u32 hi) := row_cell HZ4.out 0
              have z1 : w4.cell? ⟨w3.heap.size, 1, none⟩ = some (.int .u32 hl) := row_cell HZ4.out 1
              clear PU HT HW3 HZ
              refine hid ?_
              go_wp2_with (first | (at_builtin; refine own_w (by rfl) (.tmp 89) (.tmp 91) (by rfl) W.heap.size _ H (by rfl) w4 hi hl HW4.out (by rfl) (by have := HSUM.out; omega) HLW.out.bel.size ?_; intro v' w7 hwt hfx; have HW7 := hid hwt; have HLW7 := hid (HLW.out.fx hfx); clear hwt hfx; refine Hid.out ?_))
              obtain ⟨H2, hH2⟩ : ∃ H2, H ++ [(hi, hl)] = H2 := ⟨_, rfl⟩
              rw [hH2] at HW7 HLW7
              obtain ⟨p7, c7, hv7, _⟩ := HW7.out.form
              subst hv7
              clear hH2 z0 z1
              refine hid ?_
              go_wp2
              exact RE2.out dead loose H2 p7 c7 w7 ⟨HLW7.out, HW7.out⟩ _ _ _ _ _ _ _ _ _ _ _ _ _ _ _ _ _ _ _ _ _ _ _ _ _ _ _ _ _ _ _ _ _ _ _ _ _ _ _ _ _ _ _ _ _ _ _ _ _ _ _ _ _ _ _ _ _ _ _ _ _ _ _ _ _ _ _ _ _ _ _ _ _ _ _ _ _ _ _ _ _ _ _ _ _ _ _ _ _ _ _ _ _ _ _ _ _ _ _
            · have hfull2 : H.length + dead + loose = 12 := by have := HSUM.out; omega
              have i9 : (H.length : Int) + (dead : Int) + (loose : Int) = 12 := by omega
              have TK := hid (HLs.out.lw.full hfull2 x.v)
              clear hfull hfull2
              refine ⟨?_⟩
              go_wp2_with (first | (go_at_call 15; refine (TK.out).mono ?_; rintro e w3 ⟨rfl, hb3⟩; have HC := hid ((HLs.out.on hb3).on (ball w3 (.cells #[.int .u32 0, .int .u32 0] 34))); clear hb3; refine Hid.out ?_))
              clear TK o0 o3
              refine hid ?_
              go_wp2
              go_roundw
              case rel => exact ⟨k + 1, dead, loose, H, by have := HLT.out; omega, by go_num, rfl, rfl, hid (HC.out)⟩
              case measure => have := HLT.out; simp [intOf]; omega
          · have n0 : (xk == 0) = false := beq_eq_false_iff_ne.2 h0
            by_cases h7 : xk = 7
            · subst h7
              have p0 : wX.cell? ⟨P, 0, none⟩ = some (.int .u32 pi) := row_cell HPr.out 0
              have p1 : wX.cell? ⟨P, 1, none⟩ = some (.int .u32 pl) := row_cell HPr.out 1
              by_cases hH0 : H = []
              · subst hH0
                have HC := HLs
                refine ⟨?_⟩
                go_wp2
                go_roundw
                case rel => exact ⟨k + 1, dead, loose, [], by have := HLT.out; omega, by go_num, rfl, rfl, hid (HC.out)⟩
                case measure => have := HLT.out; simp [intOf]; omega
              · obtain ⟨kk, hkk, hpe⟩ := HPK.out.resolve_left hH0
                have CA := hid (HLs.out.lw.mark hkk)
                rw [hpe] at CA
                simp only at CA
                have hHl : ((H.length : Int) == 0) = false := by
                  rw [beq_eq_false_iff_ne]
                  omega
                have HHS := hid (show H.length ≤ 65536 by have := HSUM.out; omega)
                clear hH0 hkk hpe
                refine ⟨?_⟩
                go_wp2_with (first | (go_at_call 26; refine (CA.out).mono ?_; rintro e w3 ⟨rfl, hlw, hkq⟩; have HLW := hid hlw; have HW3 := hid (HLs.out.wt.kq hkq); have HP3 := hid (hkq.blk _ _ _ HPr.out n34 (by decide)); clear hlw hkq; refine Hid.out ?_))
                have z0 : w3.cell? ⟨P, 0, none⟩ = some (.int .u32 pi) := row_cell HP3.out 0
                have z1 : w3.cell? ⟨P, 1, none⟩ = some (.int .u32 pl) := row_cell HP3.out 1
                have WO := hid (without_hr (c := wc) HW3.out.hr HHS.out pi pl)
                clear CA p0 p1 o0
                refine hid ?_
                go_wp2_with (first | (go_at_call 27; refine (WO.out).mono ?_; rintro e w4 ⟨v', rfl, ho, hb4⟩; have HLW4 := hid (HLW.out.on hb4); have HW4 := hid (OwH.wt (own_low ho HLW.out.bel.size)); clear ho hb4; refine Hid.out ?_))
                obtain ⟨H2, hH2⟩ : ∃ H2, wout H pi pl = H2 := ⟨_, rfl⟩
                rw [hH2] at HW4 HLW4
                obtain ⟨p7, c7, hv7, _⟩ := HW4.out.form
                subst hv7
                clear hH2 z0 z1
                refine hid ?_
                go_wp2
                exact RE2.out (dead + 1) loose H2 p7 c7 w4 ⟨HLW4.out, HW4.out⟩ _ _ _ _ _ _ _ _ _ _ _ _ _ _ _ _ _ _ _ _ _ _ _ _ _ _ _ _ _ _ _ _ _ _ _ _ _ _ _ _ _ _ _ _ _ _ _ _ _ _ _ _ _ _ _ _ _ _ _ _ _ _ _ _ _ _ _ _ _ _ _ _ _ _ _ _ _ _ _ _ _ _ _ _ _ _ _ _ _ _ _ _ _ _ _ _ _ _ _
            · have n7 : (xk == 7) = false := beq_eq_false_iff_ne.2 h7
              by_cases h6 : xk = 6
              · subst h6
                have p0 : wX.cell? ⟨P, 0, none⟩ = some (.int .u32 pi) := row_cell HPr.out 0
                have p1 : wX.cell? ⟨P, 1, none⟩ = some (.int .u32 pl) := row_cell HPr.out 1
                by_cases hH0 : H = []
                · subst hH0
                  have HC := HLs
                  refine ⟨?_⟩
                  go_wp2
                  go_roundw
                  case rel => exact ⟨k + 1, dead, loose, [], by have := HLT.out; omega, by go_num, rfl, rfl, hid (HC.out)⟩
                  case measure => have := HLT.out; simp [intOf]; omega
                · obtain ⟨kk, hkk, hpe⟩ := HPK.out.resolve_left hH0
                  have CA := hid (HLs.out.lw.remove hkk)
                  rw [hpe] at CA
                  simp only at CA
                  have hHl : ((H.length : Int) == 0) = false := by
                    rw [beq_eq_false_iff_ne]
                    omega
                  have HHS := hid (show H.length ≤ 65536 by have := HSUM.out; omega)
                  clear hH0 hkk hpe
                  refine ⟨?_⟩
                  go_wp2_with (first | (go_at_call 28; refine (CA.out).mono ?_; rintro e w3 ⟨rfl, hlw, hkq⟩; have HLW := hid hlw; have HW3 := hid (HLs.out.wt.kq hkq); have HP3 := hid (hkq.blk _ _ _ HPr.out n34 (by decide)); clear hlw hkq; refine Hid.out ?_))
                  have z0 : w3.cell? ⟨P, 0, none⟩ = some (.int .u32 pi) := row_cell HP3.out 0
                  have z1 : w3.cell? ⟨P, 1, none⟩ = some (.int .u32 pl) := row_cell HP3.out 1
                  have WO := hid (without_hr (c := wc) HW3.out.hr HHS.out pi pl)
                  clear CA p0 p1 o0
                  refine hid ?_
                  go_wp2_with (first | (go_at_call 27; refine (WO.out).mono ?_; rintro e w4 ⟨v', rfl, ho, hb4⟩; have HLW4 := hid (HLW.out.on hb4); have HW4 := hid (OwH.wt (own_low ho HLW.out.bel.size)); clear ho hb4; refine Hid.out ?_))
                  obtain ⟨H2, hH2⟩ : ∃ H2, wout H pi pl = H2 := ⟨_, rfl⟩
                  rw [hH2] at HW4 HLW4
                  obtain ⟨p7, c7, hv7, _⟩ := HW4.out.form
                  subst hv7
                  clear hH2 z0 z1
                  refine hid ?_
                  go_wp2
                  exact RE2.out dead (loose + 1) H2 p7 c7 w4 ⟨HLW4.out, HW4.out⟩ _ _ _ _ _ _ _ _ _ _ _ _ _ _ _ _ _ _ _ _ _ _ _ _ _ _ _ _ _ _ _ _ _ _ _ _ _ _ _ _ _ _ _ _ _ _ _ _ _ _ _ _ _ _ _ _ _ _ _ _ _ _ _ _ _ _ _ _ _ _ _ _ _ _ _ _ _ _ _ _ _ _ _ _ _ _ _ _ _ _ _ _ _ _ _ _ _ _ _
              · have n6 : (xk == 6) = false := beq_eq_false_iff_ne.2 h6
                by_cases h8 : xk = 8
                · subst h8
                  cases hHc : H with
                  | nil =>
                    subst hHc
                    have PN := hid HLs.out.lw.popNone
                    refine ⟨?_⟩
                    go_wp2_with (first | (go_at_call 29; refine (PN.out).mono ?_; rintro e w3 ⟨rfl, hb3⟩; have HC := hid ((HLs.out.on hb3).on (ball w3 (.cells #[.int .u32 0, .int .u32 0] 34))); clear hb3; refine Hid.out ?_))
                    clear PN o0
                    refine hid ?_
                    go_wp2
                    go_quiet (fail)
                    go_wp2
                    refine RE2.out dead loose [] wp wc _ ?_ _ _ _ _ _ _ _ _ _ _ _ _ _ _ _ _ _ _ _ _ _ _ _ _ _ _ _ _ _ _ _ _ _ _ _ _ _ _ _ _ _ _ _ _ _ _ _ _ _ _ _ _ _ _ _ _ _ _ _ _ _ _ _ _ _ _ _ _ _ _ _ _ _ _ _ _ _ _ _ _ _ _ _ _ _ _ _ _ _ _ _ _ _ _ _ _ _ _ _
                    exact HC.out.on ⟨rfl, rfl, rfl, Nat.le_refl _, fun _ _ => rfl⟩
                  | cons y H' =>
                    subst hHc
                    have PN := hid HLs.out.lw.pop
                    have i9 : (0 : Int) < ((y :: H').length : Int) := by rw [List.length_cons]; omega
                    obtain ⟨ya, hya⟩ : ∃ a, y.1 = a := ⟨_, rfl⟩
                    obtain ⟨yb, hyb⟩ : ∃ a, y.2 = a := ⟨_, rfl⟩
                    rw [hya, hyb] at PN
                    refine ⟨?_⟩
                    go_wp2_with (first | (go_at_call 29; refine (PN.out).mono ?_; rintro e w3 ⟨rfl, ⟨dead3, hlw⟩, hkq⟩; have HLW := hid (hlw.on (ball w3 (.cells #[.int .u32 ya, .int .u32 yb] 34))); have HW3 := hid ((HLs.out.wt.kq hkq).on (ball w3 (.cells #[.int .u32 ya, .int .u32 yb] 34))); clear hlw hkq; refine Hid.out ?_))
                    obtain ⟨g, o, rfl, hwc, t1, t2, d0, d1, hmx⟩ := Wt.tail (show Wt W.heap.size (w3.alloc (.cells #[.int .u32 ya, .int .u32 yb] 34)) (.slice wp (H'.length + 1) wc) (y :: H') from HW3.out)
                    rw [hya] at d0
                    rw [hyb] at d1
                    have HDE := hid HLW.out.dead
                    have hln : (y :: H').length = H'.length + 1 := rfl
                    have i10 : (1 : Int) ≤ ((H'.length + 1 : Nat) : Int) := by omega
                    have i11 : (H'.length : Int) + 1 ≤ (wc : Int) := by omega
                    have q1 : ((ya : Int) == (ya : Int)) = true := by simp
                    have q2 : ((yb : Int) == (yb : Int)) = true := by simp
                    have T1 := hid t1
                    have T2 := hid t2
                    have DEQ := hid (show ∀ n, Calls Try.prog 30 #[.pointer (some ⟨Q, 0, none⟩)] ((w3.alloc (.cells #[.int .u32 ya, .int .u32 yb] 34)).drewN n) fun e w' => e = .returned (.int .i64 (dead3 : Nat)) ∧ w' = ((w3.alloc (.cells #[.int .u32 ya, .int .u32 yb] 34)).drewN n) from fun n => (HLW.out.on (w' := (w3.alloc (.cells #[.int .u32 ya, .int .u32 yb] 34)).drewN n) ⟨rfl, rfl, rfl, Nat.le_refl _, fun _ _ => rfl⟩).dead)
                    clear PN o0 t1 t2 HDE hya hyb
                    by_cases hw1 : wc = 1
                    · subst hw1
                      have W4 := hid (T1.out rfl)
                      obtain rfl : H' = [] := List.length_eq_zero_iff.1 (by omega)
                      clear hwc hmx T1 T2
                      refine hid ?_
                      go_wp2
                      go_quiet (fail)
                      go_wp2_with (first | (go_at_call 30; refine (DEQ.out _).mono ?_; rintro e w9 ⟨rfl, rfl⟩))
                      refine RE2.out dead3 (loose + 1) [] _ _ _ ?_ _ _ _ _ _ _ _ _ _ _ _ _ _ _ _ _ _ _ _ _ _ _ _ _ _ _ _ _ _ _ _ _ _ _ _ _ _ _ _ _ _ _ _ _ _ _ _ _ _ _ _ _ _ _ _ _ _ _ _ _ _ _ _ _ _ _ _ _ _ _ _ _ _ _ _ _ _ _ _ _ _ _ _ _ _ _ _ _ _ _ _ _ _ _ _ _ _ _ _
                      exact ⟨HLW.out.on ⟨rfl, rfl, rfl, Nat.le_refl _, fun _ _ => rfl⟩, W4.out.on ⟨rfl, rfl, rfl, Nat.le_refl _, fun _ _ => rfl⟩⟩
                    · have W4 := hid (T2.out hw1)
                      clear hwc hmx T1 T2
                      refine hid ?_
                      go_wp2
                      go_quiet (fail)
                      go_wp2_with (first | (go_at_call 30; refine (DEQ.out _).mono ?_; rintro e w9 ⟨rfl, rfl⟩))
                      refine RE2.out dead3 (loose + 1) H' _ _ _ ?_ _ _ _ _ _ _ _ _ _ _ _ _ _ _ _ _ _ _ _ _ _ _ _ _ _ _ _ _ _ _ _ _ _ _ _ _ _ _ _ _ _ _ _ _ _ _ _ _ _ _ _ _ _ _ _ _ _ _ _ _ _ _ _ _ _ _ _ _ _ _ _ _ _ _ _ _ _ _ _ _ _ _ _ _ _ _ _ _ _ _ _ _ _ _ _ _ _ _ _
                      exact ⟨HLW.out.on ⟨rfl, rfl, rfl, Nat.le_refl _, fun _ _ => rfl⟩, W4.out.on ⟨rfl, rfl, rfl, Nat.le_refl _, fun _ _ => rfl⟩⟩
                · have n8 : (xk == 8) = false := beq_eq_false_iff_ne.2 h8
                  by_cases h9 : xk = 9
                  · subst h9
                    have SW := hid HLs.out.lw.sweep
                    have nd0 : ((dead : Int) != (dead : Int)) = false := by simp
                    refine ⟨?_⟩
                    go_wp2_with (first | (go_at_call 31; refine (SW.out).mono ?_; rintro e w3 ⟨rfl, hlw, hkq⟩; have HLW := hid hlw; have HW3 := hid (HLs.out.wt.kq hkq); clear hlw hkq; refine Hid.out ?_))
                    clear SW o0
                    refine hid ?_
                    go_wp2
                    exact RE2.out 0 loose H wp wc w3 ⟨HLW.out, HW3.out⟩ _ _ _ _ _ _ _ _ _ _ _ _ _ _ _ _ _ _ _ _ _ _ _ _ _ _ _ _ _ _ _ _ _ _ _ _ _ _ _ _ _ _ _ _ _ _ _ _ _ _ _ _ _ _ _ _ _ _ _ _ _ _ _ _ _ _ _ _ _ _ _ _ _ _ _ _ _ _ _ _ _ _ _ _ _ _ _ _ _ _ _ _ _ _ _ _ _ _ _
                  · have n9 : (xk == 9) = false := beq_eq_false_iff_ne.2 h9
                    refine ⟨?_⟩
                    go_wp2
                    exact RE2.out dead loose H wp wc wX HLs.out _ _ _ _ _ _ _ _ _ _ _ _ _ _ _ _ _ _ _ _ _ _ _ _ _ _ _ _ _ _ _ _ _ _ _ _ _ _ _ _ _ _ _ _ _ _ _ _ _ _ _ _ _ _ _ _ _ _ _ _ _ _ _ _ _ _ _ _ _ _ _ _ _ _ _ _ _ _ _ _ _ _ _ _ _ _ _ _ _ _ _ _ _ _ _ _ _ _ _
      have RE1 := hid REST1
      clear REST1 A1
      have HBX := hid (btr (ball wr (.cells (orow x) 37)) (ball _ (.cells #[.int .u32 0, .int .u32 0] 34)))
      obtain ⟨X, hX⟩ : ∃ X, (wr.alloc (.cells #[.int .i64 x.k, .int .i64 x.q, .int .i64 x.wh, .int .i64 x.v, .bool x.r, .int .u32 x.hi, .int .u32 x.hl] 37)).alloc (.cells #[.int .u32 0, .int .u32 0] 34) = X := ⟨_, rfl⟩
      rw [show (wr.alloc (.cells (orow x) 37)).alloc (.cells #[.int .u32 0, .int .u32 0] 34) = X from hX] at HOP HX HHX HBX
      rw [hX]
      clear hX
      by_cases hH0 : H = []
      · subst hH0
        refine ⟨?_⟩
        rw [HP2.out, HO2.out]
        go_wp2
        refine RE1.out 0 0 _ ?_ ?_ ?_ (Or.inl (by trivial)) _ _ _ _ _ _ _ _ _ _ _ _ _ _ _ _ _ _
        · exact HX.out
        · exact HOP.out.1
        · exact HOP.out.2
      · have hl0 : 0 < H.length := List.length_pos_iff.2 hH0
        obtain ⟨nH, hnH⟩ : ∃ nH, H.length = nH := ⟨_, rfl⟩
        have i9 : (0 : Int) < (nH : Int) := by omega
        have i10 : ¬ (nH : Int) = 0 := by omega
        have i11 : (nH : Int) ≤ 12 := by omega
        obtain ⟨m, hm⟩ : ∃ m : Int, x.wh.tmod (nH : Int) = m := ⟨_, rfl⟩
        have hm1 : -(nH : Int) < m ∧ m < (nH : Int) := by
          rw [← hm]
          have h1 := Int.natAbs_tmod x.wh (nH : Int)
          have h2 := Nat.mod_lt x.wh.natAbs (show 0 < (nH : Int).natAbs by omega)
          omega
        have HNH := hid hnH
        by_cases hm0 : 0 ≤ m
        · obtain ⟨kk, rfl⟩ : ∃ kk : Nat, m = kk := ⟨m.toNat, by omega⟩
          have hkk : kk < H.length := by omega
          have n1 : ¬ (kk : Int) < 0 := by omega
          have n2 : (kk : Int) < (nH : Int) := by omega
          obtain ⟨g, o, rfl, hg, q0, q1⟩ := HHX.out kk hkk
          obtain ⟨pa, hpa⟩ : ∃ a, H[kk].1 = a := ⟨_, rfl⟩
          obtain ⟨pb', hpb⟩ : ∃ a, H[kk].2 = a := ⟨_, rfl⟩
          have HPE := hid (show H[kk] = (pa, pb') from by rw [← hpa, ← hpb])
          rw [hpa] at q0
          rw [hpb] at q1
          have o2 : X.cell? ⟨O, 2, none⟩ = some (.int .i64 x.wh) := row_cell HOP.out.1 2
          have z0 : X.cell? ⟨P, 0, none⟩ = some (.int .u32 0) := row_cell HOP.out.2 0
          have z1 : X.cell? ⟨P, 1, none⟩ = some (.int .u32 0) := row_cell HOP.out.2 1
          have f0 : X.frozen? ⟨P, 0, none⟩ = false := frozen_of_row _ P 0 _ _ HOP.out.2
          have f1 : X.frozen? ⟨P, 1, none⟩ = false := frozen_of_row _ P 1 _ _ HOP.out.2
          try simp only [orow] at o2
          have HKK := hid hkk
          have FIN := hid (show ∀ a b, Ls W W.heap.size Q H dead loose (.slice (some ⟨g, o, none⟩) H.length wc) ((X.setCell ⟨P, 0, none⟩ a).setCell ⟨P, 1, none⟩ b) ∧ ((X.setCell ⟨P, 0, none⟩ a).setCell ⟨P, 1, none⟩ b).heap[O]? = some (.cells (orow x) 37 (0, 0)) ∧ ((X.setCell ⟨P, 0, none⟩ a).setCell ⟨P, 1, none⟩ b).heap[P]? = some (.cells #[a, b] 34 (0, 0)) from fun a b => by
            have hOP : O ≠ P := by have h1 := HO2.out; have h2 := HP2.out; omega
            have hPw : wr.heap.size ≤ P := by have h2 := HP2.out; omega
            refine ⟨HL.out.on ((HBX.out.setCell hPw _).setCell hPw _), ?_, st34 HOP.out.2 _ _⟩
            rw [heap_setCell_other _ _ _ _ hOP, heap_setCell_other _ _ _ _ hOP]
            exact HOP.out.1)
          have HKN := hid (show kk < H.length from hkk)
          refine ⟨?_⟩
          rw [HP2.out, HO2.out, hnH]
          clear hl0 hH0 hm1 hm0 hpa hpb hg hnH i3 i4 i5 i6 i7 i8 i11
          go_wp2
          rw [← HNH.out]
          refine RE1.out pa pb' _ ?_ ?_ ?_ (Or.inr ⟨kk, HKK.out, HPE.out⟩) _ _ _ _ _ _ _ _ _ _ _ _ _ _ _ _ _ _
          · exact (FIN.out _ _).1
          · exact (FIN.out _ _).2.1
          · exact (FIN.out _ _).2.2
        · obtain ⟨kk, hk2⟩ : ∃ kk : Nat, m + (nH : Int) = kk := ⟨(m + (nH : Int)).toNat, by omega⟩
          have hkk : kk < H.length := by omega
          have n1 : m < 0 := by omega
          have n2 : (kk : Int) < (nH : Int) := by omega
          have n3 : (0 : Int) ≤ (kk : Int) := by omega
          have n4 : IntKind.i64.wrap (m + (nH : Int)) = (kk : Int) := by rw [hk2, IntKind.wrap_i64]; omega
          obtain ⟨g, o, rfl, hg, q0, q1⟩ := HHX.out kk hkk
          obtain ⟨pa, hpa⟩ : ∃ a, H[kk].1 = a := ⟨_, rfl⟩
          obtain ⟨pb', hpb⟩ : ∃ a, H[kk].2 = a := ⟨_, rfl⟩
          have HPE := hid (show H[kk] = (pa, pb') from by rw [← hpa, ← hpb])
          rw [hpa] at q0
          rw [hpb] at q1
          have o2 : X.cell? ⟨O, 2, none⟩ = some (.int .i64 x.wh) := row_cell HOP.out.1 2
          have z0 : X.cell? ⟨P, 0, none⟩ = some (.int .u32 0) := row_cell HOP.out.2 0
          have z1 : X.cell? ⟨P, 1, none⟩ = some (.int .u32 0) := row_cell HOP.out.2 1
          have f0 : X.frozen? ⟨P, 0, none⟩ = false := frozen_of_row _ P 0 _ _ HOP.out.2
          have f1 : X.frozen? ⟨P, 1, none⟩ = false := frozen_of_row _ P 1 _ _ HOP.out.2
          try simp only [orow] at o2
          have HKK := hid hkk
          have FIN := hid (show ∀ a b, Ls W W.heap.size Q H dead loose (.slice (some ⟨g, o, none⟩) H.length wc) ((X.setCell ⟨P, 0, none⟩ a).setCell ⟨P, 1, none⟩ b) ∧ ((X.setCell ⟨P, 0, none⟩ a).setCell ⟨P, 1, none⟩ b).heap[O]? = some (.cells (orow x) 37 (0, 0)) ∧ ((X.setCell ⟨P, 0, none⟩ a).setCell ⟨P, 1, none⟩ b).heap[P]? = some (.cells #[a, b] 34 (0, 0)) from fun a b => by
            have hOP : O ≠ P := by have h1 := HO2.out; have h2 := HP2.out; omega
            have hPw : wr.heap.size ≤ P := by have h2 := HP2.out; omega
            refine ⟨HL.out.on ((HBX.out.setCell hPw _).setCell hPw _), ?_, st34 HOP.out.2 _ _⟩
            rw [heap_setCell_other _ _ _ _ hOP, heap_setCell_other _ _ _ _ hOP]
            exact HOP.out.1)
          have HKN := hid (show kk < H.length from hkk)
          refine ⟨?_⟩
          rw [HP2.out, HO2.out, hnH]
          clear hl0 hH0 hm1 hm0 hpa hpb hg hnH i3 i4 i5 i6 i7 i8 i11 hk2
          go_wp2
          rw [← HNH.out]
          refine RE1.out pa pb' _ ?_ ?_ ?_ (Or.inr ⟨kk, HKK.out, HPE.out⟩) _ _ _ _ _ _ _ _ _ _ _ _ _ _ _ _ _ _
          · exact (FIN.out _ _).1
          · exact (FIN.out _ _).2.1
          · exact (FIN.out _ _).2.2
    · obtain rfl : k = xs.length := by omega
      clear hlt
      go_wp2
      go_ret
      exact ⟨rfl, HL.out.lw.bel⟩
end Go.Proofs.Ytecalelfofgfpaa
