/-
  What stands in IndexTwo between two calls; its loop over All. Written by mktw.py.
-/
import Derived.Test.YtehjmdolmkbncaaIxRg
import Derived.Test.YtehjmdolmkbncaaIxY
namespace Go.Proofs.Ytehjmdolmkbncaa
open Go.RowKit Go.Deep
set_option linter.unusedVariables false
set_option linter.unusedSimpArgs false
set_option maxRecDepth 100000
set_option maxHeartbeats 4000000
attribute [local go_sem] Oper.semAt_some
/-- two tables tell the same. -/
structure Sm (n m : Nat) (T T' : Ix.Tab) : Prop where
  has : ∀ k v, Ix.Has n T k v ↔ Ix.Has m T' k v
  cnt : Ix.cnt T n = Ix.cnt T' m
theorem has_one {n : Nat} {h : Int → Nat} {T : Ix.Tab} (t : Ix.Tidy n h T) {k v v' : Int} (a : Ix.Has n T k v) (b : Ix.Has n T k v') : v = v' := by
  obtain ⟨i, hi, ei⟩ := a
  obtain ⟨j, hj, ej⟩ := b
  have := t.one i j k v v' hi hj ei ej
  subst this
  rw [ei] at ej
  simpa using ej
theorem Sm.drop {n m : Nat} {h : Int → Nat} {T T' T2 T2' : Ix.Tab} {k v v' : Int} {b b' : Bool} (s : Sm n m T T') (t : Ix.Tidy n h T) (x : DropR n T k v b T2) (y : DropR m T' k v' b' T2') : v = v' ∧ b = b' ∧ Sm n m T2 T2' := by
  rcases x with ⟨rfl, rfl, rfl, hx⟩ | ⟨rfl, hx, hh, hc⟩
  · rcases y with ⟨rfl, rfl, rfl, hy⟩ | ⟨rfl, hy, _, _⟩
    · exact ⟨rfl, rfl, s⟩
    · exact absurd ((s.has _ _).2 hy) (hx _)
  · rcases y with ⟨rfl, rfl, rfl, hy⟩ | ⟨rfl, hy, hh', hc'⟩
    · exact absurd ((s.has _ _).1 hx) (hy _)
    · refine ⟨has_one t hx ((s.has _ _).2 hy), rfl, fun k' u => ?_, ?_⟩
      · rw [hh, hh', s.has]
      · have := s.cnt; omega
theorem Sm.get {n m : Nat} {h : Int → Nat} {T T' : Ix.Tab} {k v v' : Int} {b b' : Bool} (s : Sm n m T T') (t : Ix.Tidy n h T) (x : GetR n T k v b) (y : GetR m T' k v' b') : v = v' ∧ b = b' := by
  rcases x with ⟨rfl, rfl, hx⟩ | ⟨rfl, hx⟩
  · rcases y with ⟨rfl, rfl, hy⟩ | ⟨rfl, hy⟩
    · exact ⟨rfl, rfl⟩
    · exact absurd ((s.has _ _).2 hy) (hx _)
  · rcases y with ⟨rfl, rfl, hy⟩ | ⟨rfl, hy⟩
    · exact absurd ((s.has _ _).1 hx) (hy _)
    · exact ⟨has_one t hx ((s.has _ _).2 hy), rfl⟩
theorem Sm.put {n m room roo : Nat} {T T' T2 T2' : Ix.Tab} {k v c c' : Int} (s : Sm n m T T') (hlt : Ix.cnt T n < room) (hle : room ≤ roo) (x : PutR n room T k v c T2) (y : PutR m roo T' k v c' T2') : c = c' ∧ Sm n m T2 T2' := by
  rcases x with ⟨rfl, rfl, u, hu⟩ | ⟨_, _, _, hc⟩ | ⟨rfl, hno, _, hh, hc⟩
  · rcases y with ⟨rfl, rfl, _⟩ | ⟨_, _, hno, _⟩ | ⟨_, hno, _⟩
    · exact ⟨rfl, s⟩
    · exact absurd ((s.has _ _).1 hu) (hno u)
    · exact absurd ((s.has _ _).1 hu) (hno u)
  · omega
  · rcases y with ⟨_, _, u, hu⟩ | ⟨_, _, _, hc'⟩ | ⟨rfl, hno', _, hh', hc'⟩
    · exact absurd ((s.has _ _).2 hu) (hno u)
    · have := s.cnt; omega
    · refine ⟨rfl, fun k' u => ?_, ?_⟩
      · rw [hh, hh', s.has]
      · have := s.cnt; omega
/-- two indexes, the cell of what is answered, and the box of the second one. -/
structure Tq (w : World) (R CY X P Y PY n room m roo : Nat) (T T' : Ix.Tab) (W : World) : Prop where
  lx : Lx W X P n room T
  tx : Ix.Tidy n (hm n) T
  ly : Lx W Y PY m roo T'
  ty : Ix.Tidy m (hm m) T'
  r : W.heap[R]? = some (.cells #[.bool false] 4 (0, 0))
  cy : W.heap[CY]? = some (.cells #[.pointer (some ⟨Y, 0, none⟩)] 22 (0, 0))
  bel : Below w.heap.size w W
  gx : w.heap.size ≤ X ∧ w.heap.size ≤ P
  gy : w.heap.size ≤ Y ∧ w.heap.size ≤ PY
  ap : X ≠ Y ∧ P ≠ PY
theorem Lx.isP {w : World} {X P n room : Nat} {T : Ix.Tab} (h : Lx w X P n room T) : ∃ cs, w.heap[P]? = some (.cells cs 72 (0, 0)) := by
  obtain ⟨cs, h1, _⟩ := h.pl; exact ⟨cs, h1⟩
theorem Lx.neXP' {w : World} {X P Y PY n m room s : Nat} {T T' : Ix.Tab} (h : Lx w X P n room T) (k : Lx w Y PY m s T') : X ≠ PY := by
  rintro rfl; obtain ⟨cs, h1⟩ := k.isP; rw [h.row] at h1; simp at h1
theorem Lx.not4 {w : World} {X P n room : Nat} {T : Ix.Tab} (h : Lx w X P n room T) {g : Nat} {c : Array Value} {ty : TypeId} (hg : w.heap[g]? = some (Obj.cells c ty (0, 0))) (h1 : ty ≠ 68) (h2 : ty ≠ 72) : ¬ (g = X ∨ g = P) := by
  rintro (rfl | rfl)
  · rw [h.row] at hg; simp at hg; exact h1 hg.2.symm
  · obtain ⟨cs, e⟩ := h.isP; rw [e] at hg; simp at hg; exact h2 hg.2.symm
theorem Tq.kp {w : World} {R CY X P Y PY n room m roo : Nat} {T T' : Ix.Tab} {W W' : World} {B : Nat → Prop} (h : Tq w R CY X P Y PY n room m roo T T' W) (k : Kp B W W') (hX : ¬ B X) (hP : ¬ B P) (hY : ¬ B Y) (hPY : ¬ B PY) (hR : ¬ B R) (hC : ¬ B CY) (hlow : ∀ g, g < w.heap.size → ¬ B g) : Tq w R CY X P Y PY n room m roo T T' W' :=
  ⟨h.lx.kp k hX hP, h.tx, h.ly.kp k hY hPY, h.ty, k.row h.r hR, k.row h.cy hC, h.bel.trans (k.below h.bel.size hlow), h.gx, h.gy, h.ap⟩
theorem Tq.still {w : World} {R CY X P Y PY n room m roo : Nat} {T T' : Ix.Tab} {W W' : World} (h : Tq w R CY X P Y PY n room m roo T T' W) (k : Kp (fun _ => False) W W') : Tq w R CY X P Y PY n room m roo T T' W' :=
  h.kp k (fun h => h) (fun h => h) (fun h => h) (fun h => h) (fun h => h) (fun h => h) (fun _ _ h => h)
theorem Tq.on {w : World} {R CY X P Y PY n room m roo : Nat} {T T' : Ix.Tab} {W W' : World} (h : Tq w R CY X P Y PY n room m roo T T' W) (b : Below W.heap.size W W') : Tq w R CY X P Y PY n room m roo T T' W' := h.still (Kp.ofBelow _ b)
theorem Tq.putX {w : World} {R CY X P Y PY n room m roo : Nat} {T T' T2 : Ix.Tab} {W W' : World} (h : Tq w R CY X P Y PY n room m roo T T' W) (hL : Lx W' X P n room T2) (ht : Ix.Tidy n (hm n) T2) (k : Kp (fun b => b = X ∨ b = P) W W') : Tq w R CY X P Y PY n room m roo T2 T' W' :=
  ⟨hL, ht, h.ly.kp k (by rintro (e | e); exact h.ap.1 e.symm; exact h.ly.neXP' h.lx e) (by rintro (e | e); exact h.lx.neXP' h.ly e.symm; exact h.ap.2 e.symm), h.ty, k.row h.r (h.lx.not4 h.r (by decide) (by decide)), k.row h.cy (h.lx.not4 h.cy (by decide) (by decide)), h.bel.trans (k.below h.bel.size (fun g hg => by have := h.gx; omega)), h.gx, h.gy, h.ap⟩
theorem Tq.putY {w : World} {R CY X P Y PY n room m roo : Nat} {T T' T2 : Ix.Tab} {W W' : World} (h : Tq w R CY X P Y PY n room m roo T T' W) (hL : Lx W' Y PY m roo T2) (ht : Ix.Tidy m (hm m) T2) (k : Kp (fun b => b = Y ∨ b = PY) W W') : Tq w R CY X P Y PY n room m roo T T2 W' :=
  ⟨h.lx.kp k (by rintro (e | e); exact h.ap.1 e; exact h.lx.neXP' h.ly e) (by rintro (e | e); exact h.ly.neXP' h.lx e.symm; exact h.ap.2 e), h.tx, hL, ht, k.row h.r (h.ly.not4 h.r (by decide) (by decide)), k.row h.cy (h.ly.not4 h.cy (by decide) (by decide)), h.bel.trans (k.below h.bel.size (fun g hg => by have := h.gy; omega)), h.gx, h.gy, h.ap⟩
theorem Tq.cyc {w : World} {R CY X P Y PY n room m roo : Nat} {T T' : Ix.Tab} {W : World} (h : Tq w R CY X P Y PY n room m roo T T' W) : W.cell? ⟨CY, 0, none⟩ = some (.pointer (some ⟨Y, 0, none⟩)) := row_cell h.cy 0
theorem blind_row {B k : Nat} {o : Obj} (hk : o.isCells = true) : Blind B (fun W => W.heap[k]? = some o) := fun W W' row h hg hr => by
  rw [← h]
  refine hg.block k (Array.getElem?_eq_some_iff.1 h).1 (fun e => ?_)
  obtain ⟨_, o', h1, h2⟩ := hr _ e.symm
  rw [h] at h1; cases h1; rw [hk] at h2; cases h2
theorem blind_tq {w : World} {B R CY X P Y PY n room m roo : Nat} {T T' : Ix.Tab} (hB : w.heap.size ≤ B) : Blind B (fun W => Tq w R CY X P Y PY n room m roo T T' W) := fun W W' row h hg hr => by
  have nc : ∀ {g : Nat} {o : Obj}, W.heap[g]? = some o → o.isCells = true → ¬ (some g = row) := fun {g o} h1 h2 e => by
    obtain ⟨_, o', h3, h4⟩ := hr _ e.symm
    rw [h1] at h3; cases h3; rw [h2] at h4; cases h4
  obtain ⟨c1, e1⟩ := h.lx.isP
  obtain ⟨c2, e2⟩ := h.ly.isP
  exact h.kp (B := fun g => some g = row) ⟨hg.os, hg.tape, hg.output, hg.size, fun g hl hn => hg.block g hl hn⟩ (nc h.lx.row rfl) (nc e1 rfl) (nc h.ly.row rfl) (nc e2 rfl) (nc h.r rfl) (nc h.cy rfl) (fun g hl e => by have := (hr _ e.symm).1; omega)
def rfAs : Code → Option Code
  | .rangeFunc _ _ s _ => some s
  | .seq a b => (rfAs a).or (rfAs b)
  | .block _ c => rfAs c
  | .loop c => rfAs c
  | .scope c => rfAs c
  | .cond _ a b => (rfAs a).or (rfAs b)
  | _ => none
def rfOf : Code → Option Code
  | .rangeFunc _ _ _ b => some b
  | .seq a b => (rfOf a).or (rfOf b)
  | .block _ c => rfOf c
  | .loop c => rfOf c
  | .scope c => rfOf c
  | .cond _ a b => (rfOf a).or (rfOf b)
  | _ => none
/-- a round: a key is asked. -/
theorem trB {w W : World} (R CY X P Y PY n room m roo N CX : Nat) (T T' : Ix.Tab) (k v : Int) (d : List (Int × Int)) (r : List (Int × Int)) (l q : Nat) (hmm : 1 ≤ q) {c : Code} (hc : (Try.f8.body.bind rfOf) = some c) (u0 u1 u2 u3 u4 u5 u6 u7 u9 u10 u12 u13 u14 u15 u16 u17 u18 u19 u20 u21 u22 u24 u27 u28 u29 u30 u31 u32 u33 u34 u35 u36 u37 u38 u39 u40 u41 u42 u43 u44 u45 u46 u47 u48 u49 u50 u51 u52 u53 u54 u55 u56 u57 u58 u59 u60 u61 u62 u63 u64 u65 u66 u67 u68 u69 u70 u71 u72 u73 u74 u75 u76 u77 u78 u79 u80 u81 u82 u83 u84 u85 u86 u87 u88 u89 u90 u91 u92 u93 u94 u95 u96 u97 u98 u99 u100 u101 u102 u103 u104 u105 u106 u107 u108 u109 u110 u111 u112 u113 u114 u115 u116 u117 u118 u119 u120 u121 u122 u123 u124 u125 u126 u127 u128 u129 u130 u131 u132 u133 u134 u135 u136 u137 u138 u139 u140 u141 u142 u143 u144 u145 u146 u147 u148 u149 u150 u151 u152 u153 u154 u155 u156 u157 u158 u159 u160 u161 u162 u163 u164 u165 u166 u167 u168 u169 u170 u171 u172 u173 u174 u175 u176 u177 u181 u182 u183 u184 u185 u186 u187 u188 u189 u190 u191 u192 u193 u194 u195 u196 u197 u198 u199 u200 u201 u202 u203 u204 u205 : Value)
    (h : Tq w R CY X P Y PY n room m roo T T' W) (hN : W.heap[N]? = some (.cells #[.int .i64 (d.length : Nat)] 3 (0, 0))) (hp : (d ++ (k, v) :: r).Perm (us T n)) (hS : Sm n m T T') (wN : w.heap.size ≤ N)
    {Q : Exit → Act → World → Prop} (hQ : ∀ a' W', Tq w R CY X P Y PY n room m roo T T' W' → W'.heap[N]? = some (.cells #[.int .i64 ((d ++ [(k, v)]).length : Nat)] 3 (0, 0)) → Kp (fun b => b = N) W W' → Q .normal a' W') :
    c.wpIn (Fence.wide.inRound l) q Try.prog Q { tmps := #[u0, u1, u2, u3, u4, u5, u6, u7, .pointer (some ⟨R, 0, none⟩), u9, u10, .pointer (some ⟨CY, 0, none⟩), u12, u13, u14, u15, u16, u17, u18, u19, u20, u21, u22, .pointer (some ⟨N, 0, none⟩), u24, .int .u64 k, .int .i64 v, u27, u28, u29, u30, u31, u32, u33, u34, u35, u36, u37, u38, u39, u40, u41, u42, u43, u44, u45, u46, u47, u48, u49, u50, u51, u52, u53, u54, u55, u56, u57, u58, u59, u60, u61, u62, u63, u64, u65, u66, u67, u68, u69, u70, u71, u72, u73, u74, u75, u76, u77, u78, u79, u80, u81, u82, u83, u84, u85, u86, u87, u88, u89, u90, u91, u92, u93, u94, u95, u96, u97, u98, u99, u100, u101, u102, u103, u104, u105, u106, u107, u108, u109, u110, u111, u112, u113, u114, u115, u116, u117, u118, u119, u120, u121, u122, u123, u124, u125, u126, u127, u128, u129, u130, u131, u132, u133, u134, u135, u136, u137, u138, u139, u140, u141, u142, u143, u144, u145, u146, u147, u148, u149, u150, u151, u152, u153, u154, u155, u156, u157, u158, u159, u160, u161, u162, u163, u164, u165, u166, u167, u168, u169, u170, u171, u172, u173, u174, u175, u176, u177, .func (.func 35) #[] #[.pointer (some ⟨CX, 0, none⟩)], .int .u64 k, .int .i64 v, u181, u182, u183, u184, u185, u186, u187, u188, u189, u190, u191, u192, u193, u194, u195, u196, u197, u198, u199, u200, u201, u202, u203, u204, u205], defers := [] } W := by
  simp only [Try.f8, rfOf, Option.bind, Option.or] at hc
  injection hc with hc
  subst hc
  have HQ := hid hQ
  have hmem : (k, v) ∈ us T n := hp.subset (by simp)
  have hhas : Ix.Has m T' k v := (hS.has _ _).1 ((us_mem T n k v).1 hmem)
  have hlen : (d ++ (k, v) :: r).length ≤ room := by rw [hp.length_eq, us_len]; exact h.lx.le
  have hroom : room ≤ 65536 := by have := h.lx.two; have := h.lx.most; omega
  have HGT := hid (show Calls Try.prog 21 #[.pointer (some ⟨Y, 0, none⟩), .int .u64 k] W fun e w' => e = .returned (.tuple #[.int .i64 v, .bool true]) ∧ Kp (fun _ => False) W w' from (get_map h.ly h.ty k).mono fun e w' ⟨v', b', e1, k1, g1⟩ => by
    rcases g1 with ⟨_, _, g2⟩ | ⟨rfl, g2⟩
    · exact absurd hhas (g2 v)
    · rw [has_one h.ty hhas g2]; exact ⟨e1, k1⟩)
  have HT := hid h
  have HNR := hid hN
  have mCY := h.cyc
  have dlt : d.length < 65536 := by simp at hlen; omega
  have wj : IntKind.i64.wrap ((d.length : Int) + 1) = (((d ++ [(k, v)]).length : Nat) : Int) := by simp [IntKind.wrap, IntKind.bits, IntKind.signed]; omega
  have HNY := hid (h.ly.not4 hN (by decide) (by decide))
  have HNX := hid (h.lx.not4 hN (by decide) (by decide))
  have HNR' := hid (show ¬ N = R ∧ ¬ N = CY from ⟨by rintro rfl; have := h.r; rw [hN] at this; simp at this, by rintro rfl; have := h.cy; rw [hN] at this; simp at this⟩)
  clear h hN hp hS hQ hmem hhas hlen
  gi_wp2_with (first | (refine ⟨trivial, ?_⟩; gi_at_call 21; refine (CallsIn.inRound l (callsIn_wide.2 HGT.out)).mono ?_; rintro e w2 ⟨rfl, hk2⟩; have HT2 := hid (HT.out.still hk2); have HK2 := hid hk2; have hN2 := hk2.row HNR.out (fun h => h); clear hk2 HGT; refine Hid.out ?_))
  have mN := row_cell hN2 0
  simp only [List.getElem?_toArray, List.getElem?_cons_zero, List.getElem?_cons_succ] at mN
  have fN := frozen_of_row w2 N 0 _ _ hN2
  refine hid ?_
  gi_wp2_with fail
  have hNn : (w2.setCell ⟨N, 0, none⟩ (.int .i64 ((d.length : Int) + 1))).heap[N]? = some (.cells #[.int .i64 (((d ++ [(k, v)]).length : Nat) : Int)] 3 (0, 0)) := by
    rw [heap_setCell_same w2 N 0 _ 3 _ hN2]; simp
  refine HQ.out _ _ (HT2.out.kp (B := fun b => b = N) (Kp.setCell (B := fun b => b = N) rfl 0 _) (fun e => HNX.out (.inl e.symm)) (fun e => HNX.out (.inr e.symm)) (fun e => HNY.out (.inl e.symm)) (fun e => HNY.out (.inr e.symm)) (fun e => HNR'.out.1 e.symm) (fun e => HNR'.out.2 e.symm) (fun g hg e => by subst e; omega)) hNn ((HK2.out.mono (fun _ _ h => h.elim)).trans (Kp.setCell (B := fun b => b = N) rfl 0 _))

theorem trR {w W0 : World} (R CY X P Y PY n room m roo N CX : Nat) (T T' : Ix.Tab) {sg c : Code} (has : (Try.f8.body.bind rfAs) = some sg) (hc : (Try.f8.body.bind rfOf) = some c) (u0 u1 u2 u3 u4 u5 u6 u7 u9 u10 u12 u13 u14 u15 u16 u17 u18 u19 u20 u21 u22 u24 u25 u26 u27 u28 u29 u30 u31 u32 u33 u34 u35 u36 u37 u38 u39 u40 u41 u42 u43 u44 u45 u46 u47 u48 u49 u50 u51 u52 u53 u54 u55 u56 u57 u58 u59 u60 u61 u62 u63 u64 u65 u66 u67 u68 u69 u70 u71 u72 u73 u74 u75 u76 u77 u78 u79 u80 u81 u82 u83 u84 u85 u86 u87 u88 u89 u90 u91 u92 u93 u94 u95 u96 u97 u98 u99 u100 u101 u102 u103 u104 u105 u106 u107 u108 u109 u110 u111 u112 u113 u114 u115 u116 u117 u118 u119 u120 u121 u122 u123 u124 u125 u126 u127 u128 u129 u130 u131 u132 u133 u134 u135 u136 u137 u138 u139 u140 u141 u142 u143 u144 u145 u146 u147 u148 u149 u150 u151 u152 u153 u154 u155 u156 u157 u158 u159 u160 u161 u162 u163 u164 u165 u166 u167 u168 u169 u170 u171 u172 u173 u174 u175 u176 u177 u179 u180 u181 u182 u183 u184 u185 u186 u187 u188 u189 u190 u191 u192 u193 u194 u195 u196 u197 u198 u199 u200 u201 u202 u203 u204 u205 : Value)
    (h : Tq w R CY X P Y PY n room m roo T T' W0) (hS : Sm n m T T') (hN : W0.heap[N]? = some (.cells #[.int .i64 0] 3 (0, 0))) (hCX : W0.heap[CX]? = some (.cells #[.pointer (some ⟨X, 0, none⟩)] 22 (0, 0))) (wN : w.heap.size ≤ N)
    {Q : Exit → Act → World → Prop} (hrest : ∀ (D : Nat) (W : World), W0.heap.size ≤ D → Tq w R CY X P Y PY n room m roo T T' W → W.heap[N]? = some (.cells #[.int .i64 (Ix.cnt T n : Nat)] 3 (0, 0)) → W.heap[D]? = some (.deferred (some [])) → Q .normal { tmps := #[u0, u1, u2, u3, u4, u5, u6, u7, .pointer (some ⟨R, 0, none⟩), u9, u10, .pointer (some ⟨CY, 0, none⟩), u12, u13, u14, u15, u16, u17, u18, u19, u20, u21, u22, .pointer (some ⟨N, 0, none⟩), u24, u25, u26, u27, u28, u29, u30, u31, u32, u33, u34, u35, u36, u37, u38, u39, u40, u41, u42, u43, u44, u45, u46, u47, u48, u49, u50, u51, u52, u53, u54, u55, u56, u57, u58, u59, u60, u61, u62, u63, u64, u65, u66, u67, u68, u69, u70, u71, u72, u73, u74, u75, u76, u77, u78, u79, u80, u81, u82, u83, u84, u85, u86, u87, u88, u89, u90, u91, u92, u93, u94, u95, u96, u97, u98, u99, u100, u101, u102, u103, u104, u105, u106, u107, u108, u109, u110, u111, u112, u113, u114, u115, u116, u117, u118, u119, u120, u121, u122, u123, u124, u125, u126, u127, u128, u129, u130, u131, u132, u133, u134, u135, u136, u137, u138, u139, u140, u141, u142, u143, u144, u145, u146, u147, u148, u149, u150, u151, u152, u153, u154, u155, u156, u157, u158, u159, u160, u161, u162, u163, u164, u165, u166, u167, u168, u169, u170, u171, u172, u173, u174, u175, u176, u177, .func (.func 35) #[] #[.pointer (some ⟨CX, 0, none⟩)], u179, u180, u181, u182, u183, u184, u185, u186, u187, u188, u189, u190, u191, u192, u193, u194, u195, u196, u197, u198, u199, u200, u201, u202, u203, u204, u205], defers := [{ target := .collected D, args := #[] }] } W) :
    (Code.rangeFunc (.tmp 178) #[179, 180] sg c).wpIn Fence.wide 5 Try.prog Q { tmps := #[u0, u1, u2, u3, u4, u5, u6, u7, .pointer (some ⟨R, 0, none⟩), u9, u10, .pointer (some ⟨CY, 0, none⟩), u12, u13, u14, u15, u16, u17, u18, u19, u20, u21, u22, .pointer (some ⟨N, 0, none⟩), u24, u25, u26, u27, u28, u29, u30, u31, u32, u33, u34, u35, u36, u37, u38, u39, u40, u41, u42, u43, u44, u45, u46, u47, u48, u49, u50, u51, u52, u53, u54, u55, u56, u57, u58, u59, u60, u61, u62, u63, u64, u65, u66, u67, u68, u69, u70, u71, u72, u73, u74, u75, u76, u77, u78, u79, u80, u81, u82, u83, u84, u85, u86, u87, u88, u89, u90, u91, u92, u93, u94, u95, u96, u97, u98, u99, u100, u101, u102, u103, u104, u105, u106, u107, u108, u109, u110, u111, u112, u113, u114, u115, u116, u117, u118, u119, u120, u121, u122, u123, u124, u125, u126, u127, u128, u129, u130, u131, u132, u133, u134, u135, u136, u137, u138, u139, u140, u141, u142, u143, u144, u145, u146, u147, u148, u149, u150, u151, u152, u153, u154, u155, u156, u157, u158, u159, u160, u161, u162, u163, u164, u165, u166, u167, u168, u169, u170, u171, u172, u173, u174, u175, u176, u177, .func (.func 35) #[] #[.pointer (some ⟨CX, 0, none⟩)], u179, u180, u181, u182, u183, u184, u185, u186, u187, u188, u189, u190, u191, u192, u193, u194, u195, u196, u197, u198, u199, u200, u201, u202, u203, u204, u205], defers := [] } W0 := by
  have HR := hid hrest
  clear hrest
  have wW := h.bel.size
  have bN := row_lt hN
  refine range_all (by omega) (CX := CX) (X := X) (P := P) (m := n) (room := room) (T := T) rfl rfl (row_cell hCX 0) h.lx
    (fun r W => ∃ d, Tq w R CY X P Y PY n room m roo T T' W ∧ (d ++ r).Perm (us T n) ∧ W.heap[N]? = some (.cells #[.int .i64 (d.length : Nat)] 3 (0, 0)))
    (fun cd W => False)
    ?hI ?hIx ?hgr ?h0
    (fun x => { tmps := #[u0, u1, u2, u3, u4, u5, u6, u7, .pointer (some ⟨R, 0, none⟩), u9, u10, .pointer (some ⟨CY, 0, none⟩), u12, u13, u14, u15, u16, u17, u18, u19, u20, u21, u22, .pointer (some ⟨N, 0, none⟩), u24, .int .u64 x.1, .int .i64 x.2, u27, u28, u29, u30, u31, u32, u33, u34, u35, u36, u37, u38, u39, u40, u41, u42, u43, u44, u45, u46, u47, u48, u49, u50, u51, u52, u53, u54, u55, u56, u57, u58, u59, u60, u61, u62, u63, u64, u65, u66, u67, u68, u69, u70, u71, u72, u73, u74, u75, u76, u77, u78, u79, u80, u81, u82, u83, u84, u85, u86, u87, u88, u89, u90, u91, u92, u93, u94, u95, u96, u97, u98, u99, u100, u101, u102, u103, u104, u105, u106, u107, u108, u109, u110, u111, u112, u113, u114, u115, u116, u117, u118, u119, u120, u121, u122, u123, u124, u125, u126, u127, u128, u129, u130, u131, u132, u133, u134, u135, u136, u137, u138, u139, u140, u141, u142, u143, u144, u145, u146, u147, u148, u149, u150, u151, u152, u153, u154, u155, u156, u157, u158, u159, u160, u161, u162, u163, u164, u165, u166, u167, u168, u169, u170, u171, u172, u173, u174, u175, u176, u177, .func (.func 35) #[] #[.pointer (some ⟨CX, 0, none⟩)], .int .u64 x.1, .int .i64 x.2, u181, u182, u183, u184, u185, u186, u187, u188, u189, u190, u191, u192, u193, u194, u195, u196, u197, u198, u199, u200, u201, u202, u203, u204, u205], defers := [] })
    ?assign ?body ?done ?stop
  case hI =>
    rintro r W W' row ⟨d, h1, h2, h4⟩ hg hr
    exact ⟨d, blind_tq wW W W' row h1 hg hr, h2, blind_row rfl W W' row h4 hg hr⟩
  case hIx => rintro cd W W' row hf; exact hf.elim
  case hgr =>
    rintro r W W' ⟨d, h1, h2, h4⟩ hw
    exact ⟨d, h1.on hw, h2, (hw.block _ (row_lt h4)).trans h4⟩
  case h0 =>
    intro L hp _
    exact ⟨[], h, hp, hN⟩
  case assign =>
    intro l x W K hK
    simp only [Try.f8, rfAs, Option.bind, Option.or] at has
    injection has with has
    subst has
    gi_wp2
    exact hK
  case body =>
    rintro l x r W hsz ⟨d, h1, h2, h4⟩
    refine trB R CY X P Y PY n room m roo N CX T T' x.1 x.2 d r l _ (by omega) hc u0 u1 u2 u3 u4 u5 u6 u7 u9 u10 u12 u13 u14 u15 u16 u17 u18 u19 u20 u21 u22 u24 u27 u28 u29 u30 u31 u32 u33 u34 u35 u36 u37 u38 u39 u40 u41 u42 u43 u44 u45 u46 u47 u48 u49 u50 u51 u52 u53 u54 u55 u56 u57 u58 u59 u60 u61 u62 u63 u64 u65 u66 u67 u68 u69 u70 u71 u72 u73 u74 u75 u76 u77 u78 u79 u80 u81 u82 u83 u84 u85 u86 u87 u88 u89 u90 u91 u92 u93 u94 u95 u96 u97 u98 u99 u100 u101 u102 u103 u104 u105 u106 u107 u108 u109 u110 u111 u112 u113 u114 u115 u116 u117 u118 u119 u120 u121 u122 u123 u124 u125 u126 u127 u128 u129 u130 u131 u132 u133 u134 u135 u136 u137 u138 u139 u140 u141 u142 u143 u144 u145 u146 u147 u148 u149 u150 u151 u152 u153 u154 u155 u156 u157 u158 u159 u160 u161 u162 u163 u164 u165 u166 u167 u168 u169 u170 u171 u172 u173 u174 u175 u176 u177 u181 u182 u183 u184 u185 u186 u187 u188 u189 u190 u191 u192 u193 u194 u195 u196 u197 u198 u199 u200 u201 u202 u203 u204 u205 h1 h4 h2 hS wN ?_
    intro a' W' g1 g2 g4
    refine ⟨⟨g4.size, fun k o hk ho => ?_⟩, fun k o hk ho => ?_, d ++ [x], g1, ?_, g2⟩
    · refine g4.row hk ?_
      rintro rfl
      rw [h4] at hk; cases hk; cases ho
    · refine g4.row ho ?_
      rintro rfl
      omega
    · simpa using h2
  case done =>
    rintro D W hD ⟨d, h1, h2, h4⟩ hd'
    rw [List.append_nil] at h2
    have e : d.length = Ix.cnt T n := by rw [h2.length_eq, us_len]
    exact HR.out D W hD h1 (by rw [← e]; exact h4) hd'
  case stop =>
    rintro D cd W hD hf; exact hf.elim
end Go.Proofs.Ytehjmdolmkbncaa
