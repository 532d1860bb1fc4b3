/-
  goes: its loop over All, over Back; its first and its second going. Written by mkk.py.
-/
import Derived.Test.YtcbfgodknonefaaDoorBnJ
namespace Go.Proofs.YtcbfgodknonefaaDoor
open Go.RowKit Go.Deep Bt
set_option linter.unusedVariables false
set_option maxRecDepth 100000
set_option maxHeartbeats 4000000
attribute [local go_sem] Oper.semAt_some

def rfAs : Code → Option Code
  | .rangeFunc _ _ s _ => some s
  | .seq a b => (rfAs a).or (rfAs b)
  | .block _ c => rfAs c
  | .loop c => rfAs c
  | .scope c => rfAs c
  | .cond _ a b => (rfAs a).or (rfAs b)
  | _ => none
theorem nilf (f : Fn) (x y : Array Value) (w : World) : Sem.run Tryd.prog (binOp BinOp.eql 64 (Value.func f x y) Value.nilFunc) w = .ok (.bool false) w := rfl
theorem cell_same {w w' : World} {g q : Nat} (h : w'.heap[g]? = w.heap[g]?) : w'.cell? ⟨g, q, none⟩ = w.cell? ⟨g, q, none⟩ := by
  simp only [World.cell?, h]
theorem Laid.same {w w' : World} (h : Laid w) (e : w'.heap[0]? = w.heap[0]?) : Laid w' := fun k hk => (cell_same e).trans (h k hk)
theorem cell_lt {w : World} {g q : Nat} {v : Value} (h : w.cell? ⟨g, q, none⟩ = some v) : g < w.heap.size := by
  by_cases c : g < w.heap.size
  · exact c
  · exfalso
    have e : w.heap[g]? = none := Array.getElem?_eq_none (by omega)
    simp [World.cell?, e] at h
/-- a tick of the set stands in the list at the place of its rank. -/
theorem Tl.at {S : Nat → Bool} {l : List Int} (h : Tl S l) {i : Nat} (hi : i < 262144) (hS : S i = true) : ∃ hq : cn S i < l.length, l[cn S i] = (i : Int) := by
  have e1 : cn S (i + 1) = cn S i + 1 := by rw [cn, hS]; rfl
  have m1 : cn S (i + 1) ≤ cn S 262144 := cn_mono S (by omega)
  have hq : cn S i < l.length := by rw [show l.length = cn S 262144 from h.len]; omega
  obtain ⟨u, e, hu, hu2, hu3⟩ := h.get (cn S i) hq
  have : u = i := by
    have e2 : cn S (u + 1) = cn S u + 1 := by rw [cn, hu]; rfl
    rcases Nat.lt_trichotomy u i with c | c | c
    · have := cn_mono S (show u + 1 ≤ i by omega); omega
    · exact c
    · have := cn_mono S (show i + 1 ≤ u by omega); omega
  exact ⟨hq, by rw [e, this]⟩
theorem trn_out (S : Nat → Bool) (t : Int) (h : isT t = false) : trn S t = S := by
  have h' : ¬ (0 ≤ t ∧ t < 262144) := by unfold isT at h; exact of_decide_eq_false h
  unfold trn
  rw [hasI_out S t h']
  unfold insI
  simp [h']
theorem rng9_f (b C X O R V N T cap : Nat) (p : Option Addr) (l : List Int) (S : Nat → Bool) (hS : Tl S l) (x1 x2 A B : Int) {sg c : Code} (has : (Tryd.f40.body.bind rfAs) = some sg) (hc : (Tryd.f40.body.bind rfOf) = some c) (u0 u1 u5 u9 u10 u11 u12 u13 u14 u15 u16 u17 u18 u19 u20 u21 u22 u23 u24 u25 u27 u28 u29 u30 u31 u32 u33 u34 u35 u36 u37 u38 u39 u40 u41 u42 u43 u44 u45 u46 u47 u48 u49 u50 u51 u52 u53 u54 u55 u56 u57 u58 u59 u60 u61 u62 u63 u64 u65 u66 u67 u68 u69 u70 u71 u72 u73 u74 u75 u76 u77 u78 u79 u80 u81 u82 u83 u84 u85 u86 u87 u88 u89 u90 u91 u92 u93 u94 u95 u96 u97 : Value) (ds : List Deferred) (W0 : World) (hB : Bm W0 b S) (hL : Laid W0) (h0b : 0 < b)
    (hX : W0.heap[X]? = some (.cells #[.pointer (some ⟨b, 0, none⟩), .slice p l.length cap] 32 (0, 0)))
    (hO : W0.heap[O]? = some (.cells #[.int .i64 9, .int .i64 x1, .int .i64 x2, .int .i64 A, .int .i64 B] 35 (0, 0)))
    (hV : W0.heap[V]? = some (.cells #[.int .i64 0] 3 (0, 0)))
    (hN : W0.heap[N]? = some (.cells #[.int .i64 0] 3 (0, 0)))
    (hT : W0.heap[T]? = some (.cells #[.bool false] 4 (0, 0)))
    (hC : W0.heap[C]? = some (.cells #[.pointer (some ⟨b, 0, none⟩)] 23 (0, 0)))
    (hl : Lr W0 p l) (hg : ∀ g, p = some ⟨g, 0, none⟩ → 0 < l.length → g ≠ b ∧ g ≠ N ∧ g ≠ T)
    (dX : X ≠ b ∧ X ≠ N ∧ X ≠ T) (dO : O ≠ b ∧ O ≠ N ∧ O ≠ T) (dV : V ≠ b ∧ V ≠ N ∧ V ≠ T) (dN : N ≠ b) (dT : T ≠ b) (dNT : N ≠ T) (dN0 : N ≠ 0) (dT0 : T ≠ 0)
    {Q : Exit → Act → World → Prop} (hex : ∀ a' W, Q .normal a' W → (Code.exit 2).wpIn Fence.wide 5 Tryd.prog Q a' W)
    (hrest : ∀ (D n : Nat) (tb : Bool) (S' : Nat → Bool) (W : World), W0.heap.size ≤ D → K3 b N T W0 W → W.heap[N]? = some (.cells #[.int .i64 (n : Int)] 3 (0, 0)) → W.heap[T]? = some (.cells #[.bool tb] 4 (0, 0)) → Bm W b S' → ((tb = true ∧ S' = trn S A) ∨ (tb = false ∧ S' = S)) → (n = l.length ∨ (n : Int) = B) → W.heap[D]? = some (.deferred (some [])) →
      Q .normal { tmps := #[u0, u1, .pointer (some ⟨X, 0, none⟩), .pointer (some ⟨O, 0, none⟩), .pointer (some ⟨R, 0, none⟩), u5, .pointer (some ⟨V, 0, none⟩), .pointer (some ⟨N, 0, none⟩), .pointer (some ⟨T, 0, none⟩), u9, u10, u11, u12, u13, u14, u15, u16, u17, u18, u19, u20, u21, u22, u23, u24, u25, .func (.func 55) #[] #[.pointer (some ⟨C, 0, none⟩)], u27, u28, u29, u30, u31, u32, u33, u34, u35, u36, u37, u38, u39, u40, u41, u42, u43, u44, u45, u46, u47, u48, u49, u50, u51, u52, u53, u54, u55, u56, u57, u58, u59, u60, u61, u62, u63, u64, u65, u66, u67, u68, u69, u70, u71, u72, u73, u74, u75, u76, u77, u78, u79, u80, u81, u82, u83, u84, u85, u86, u87, u88, u89, u90, u91, u92, u93, u94, u95, u96, u97], defers := { target := .collected D, args := #[] } :: ds } W) :
    (Code.rangeFunc (.tmp 26) #[27] sg c).wpIn Fence.wide 5 Tryd.prog Q { tmps := #[u0, u1, .pointer (some ⟨X, 0, none⟩), .pointer (some ⟨O, 0, none⟩), .pointer (some ⟨R, 0, none⟩), u5, .pointer (some ⟨V, 0, none⟩), .pointer (some ⟨N, 0, none⟩), .pointer (some ⟨T, 0, none⟩), u9, u10, u11, u12, u13, u14, u15, u16, u17, u18, u19, u20, u21, u22, u23, u24, u25, .func (.func 55) #[] #[.pointer (some ⟨C, 0, none⟩)], u27, u28, u29, u30, u31, u32, u33, u34, u35, u36, u37, u38, u39, u40, u41, u42, u43, u44, u45, u46, u47, u48, u49, u50, u51, u52, u53, u54, u55, u56, u57, u58, u59, u60, u61, u62, u63, u64, u65, u66, u67, u68, u69, u70, u71, u72, u73, u74, u75, u76, u77, u78, u79, u80, u81, u82, u83, u84, u85, u86, u87, u88, u89, u90, u91, u92, u93, u94, u95, u96, u97], defers := ds } W0 := by
  have lt : ∀ {j : Nat} {o : Obj}, W0.heap[j]? = some o → j < W0.heap.size := fun h => (Array.getElem?_eq_some_iff.1 h).1
  have bX := lt hX
  have bO := lt hO
  have bV := lt hV
  have bN := lt hN
  have bT := lt hT
  have bb := hB.lt
  have ll : l.length ≤ 262144 := by rw [hS.len]; exact len_le S
  have le : l.length = cn S 262144 := hS.len
  have HR := hid hrest
  have HE := hid hex
  clear hrest hex
  refine range_all (by omega) (b := b) (C := C) (S := S) rfl rfl hB (row_cell hC 0)
    (fun i W => K3 b N T W0 W ∧ W.heap[N]? = some (.cells #[.int .i64 ((cn S i : Nat) : Int)] 3 (0, 0)) ∧ W.heap[T]? = some (.cells #[.bool (decide (0 < (cn S i)) && isT A)] 4 (0, 0)) ∧ Bm W b (if 0 < (cn S i) then trn S A else S))
    (fun cd W => ∃ n : Nat, (cd = .exit 2 ∧ (n : Int) = B ∧ 0 < n) ∧ K3 b N T W0 W ∧ W.heap[N]? = some (.cells #[.int .i64 (n : Int)] 3 (0, 0)) ∧ W.heap[T]? = some (.cells #[.bool (isT A)] 4 (0, 0)) ∧ Bm W b (trn S A))
    ?hL ?hs ?hI ?hIx ?hgr ?h0
    (fun i => { tmps := #[u0, u1, .pointer (some ⟨X, 0, none⟩), .pointer (some ⟨O, 0, none⟩), .pointer (some ⟨R, 0, none⟩), u5, .pointer (some ⟨V, 0, none⟩), .pointer (some ⟨N, 0, none⟩), .pointer (some ⟨T, 0, none⟩), .int .i64 (i : Int), u10, u11, u12, u13, u14, u15, u16, u17, u18, u19, u20, u21, u22, u23, u24, u25, .func (.func 55) #[] #[.pointer (some ⟨C, 0, none⟩)], .int .i64 (i : Int), u28, u29, u30, u31, u32, u33, u34, u35, u36, u37, u38, u39, u40, u41, u42, u43, u44, u45, u46, u47, u48, u49, u50, u51, u52, u53, u54, u55, u56, u57, u58, u59, u60, u61, u62, u63, u64, u65, u66, u67, u68, u69, u70, u71, u72, u73, u74, u75, u76, u77, u78, u79, u80, u81, u82, u83, u84, u85, u86, u87, u88, u89, u90, u91, u92, u93, u94, u95, u96, u97], defers := [] })
    ?assign ?body ?done ?stop
  case hL =>
    rintro i W ⟨hk, _⟩
    exact hL.same (hk.obj 0 (by omega) (by omega) (by omega) (by omega))
  case hs =>
    intro i W hi hz h
    have e : cn S (i + 1) = cn S i := by rw [cn, hz]; rfl
    simp only [e] at h ⊢
    exact h
  case hI =>
    intro i
    exact blind_k3.and ((blind_row bN).and ((blind_row bT).and (blind_bm bb)))
  case hIx =>
    intro cd W W' row hs hgr hr
    obtain ⟨n, h⟩ := hs
    exact ⟨n, ((blind_pure _).and (blind_k3.and ((blind_row bN).and ((blind_row bT).and (blind_bm bb))))) W W' row h hgr hr⟩
  case hgr =>
    rintro i W W' ⟨hk, h1, h2, h3⟩ hw
    exact ⟨hk.trans (k3_below hw), (hw.block N (Array.getElem?_eq_some_iff.1 h1).1).trans h1, (hw.block T (Array.getElem?_eq_some_iff.1 h2).1).trans h2, h3.on hw⟩
  case h0 =>
    have e0 : cn S 0 = 0 := rfl
    simp only [e0]
    exact ⟨K3.refl _ _ _ _, hN, by simpa using hT, by simpa using hB⟩
  case assign =>
    intro l2 i W K hK
    simp only [Tryd.f40, rfAs, Option.bind, Option.or] at has
    injection has with has
    subst has
    clear HR HE hX hO hV hN hT hC hl hg hS hB hL le ll bX bO bV bN bT bb lt dX dO dV dN dT dNT dN0 dT0
    gi_wp2
    exact hK
  case body =>
    rintro l2 i W hsz hi hSi ⟨hk, h1, h2, h3⟩
    obtain ⟨hq, e⟩ := hS.at hi hSi
    obtain ⟨g, rfl, hcell⟩ := hl (cn S i) hq
    rw [e] at hcell
    obtain ⟨g1, g2, g3⟩ := hg g rfl (by omega)
    have e1 : cn S (i + 1) = cn S i + 1 := by rw [cn, hSi]; rfl
    have kX := (hk.obj X bX dX.1 dX.2.1 dX.2.2).trans hX
    have kO := (hk.obj O bO dO.1 dO.2.1 dO.2.2).trans hO
    have kV := (hk.obj V bV dV.1 dV.2.1 dV.2.2).trans hV
    have kl := (cell_same (q := cn S i) (hk.obj g (cell_lt hcell) g1 g2 g3)).trans hcell
    obtain ⟨row, hrow, _⟩ := id h3
    have FN : ∀ {W' : World}, K3 b N T W W' → KeepsOthers W W' ∧ Ab (W0.heap.size + 2) W W' := fun h => ⟨h.keeps hrow h1 h2 rfl rfl rfl, h.ab (by omega) (by omega) (by omega)⟩
    have hqn : cn S i = cn S i := rfl
    have nx : cn S i + 1 = cn S (i + 1) := by omega
    by_cases n0 : (cn S i) = 0
    · simp only [n0, Nat.lt_irrefl, decide_false, Bool.false_and, if_false] at h1 h2 h3
      have nx1 : (1 : Int) = ((cn S (i + 1) : Nat) : Int) := by omega
      have nx2 : 0 < cn S (i + 1) := by omega
      by_cases hb : (1 : Int) = B
      · refine go9_tx b X O R V N T i l.length cap S x1 x2 A B  false g (cn S i) l2 _ (by omega) hc u0 u1 u5 u10 u11 u12 u13 u14 u15 u16 u17 u18 u19 u20 u21 u22 u23 u24 u25 (.func (.func 55) #[] #[.pointer (some ⟨C, 0, none⟩)]) u28 u29 u30 u31 u32 u33 u34 u35 u36 u37 u38 u39 u40 u41 u42 u43 u44 u45 u46 u47 u48 u49 u50 u51 u52 u53 u54 u55 u56 u57 u58 u59 u60 u61 u62 u63 u64 u65 u66 u67 u68 u69 u70 u71 u72 u73 u74 u75 u76 u77 u78 u79 u80 u81 u82 u83 u84 u85 u86 u87 u88 u89 u90 u91 u92 u93 u94 u95 u96 u97 W h3 kX kO kV h1 h2 kl dX dO dV dN dT dNT (by omega) hq ll hi hb (fun a' W' hk' c1 c2 c3 => ?_)
        exact ⟨(FN hk').1, 1, ⟨rfl, hb, by omega⟩, hk.trans hk', c1, c2, c3⟩
      · refine go9_t b X O R V N T i l.length cap S x1 x2 A B  false g (cn S i) l2 _ (by omega) hc u0 u1 u5 u10 u11 u12 u13 u14 u15 u16 u17 u18 u19 u20 u21 u22 u23 u24 u25 (.func (.func 55) #[] #[.pointer (some ⟨C, 0, none⟩)]) u28 u29 u30 u31 u32 u33 u34 u35 u36 u37 u38 u39 u40 u41 u42 u43 u44 u45 u46 u47 u48 u49 u50 u51 u52 u53 u54 u55 u56 u57 u58 u59 u60 u61 u62 u63 u64 u65 u66 u67 u68 u69 u70 u71 u72 u73 u74 u75 u76 u77 u78 u79 u80 u81 u82 u83 u84 u85 u86 u87 u88 u89 u90 u91 u92 u93 u94 u95 u96 u97 W h3 kX kO kV h1 h2 kl dX dO dV dN dT dNT (by omega) hq ll hi hb (fun a' W' hk' c1 c2 c3 => ?_)
        rw [nx1] at c1
        refine ⟨(FN hk').1, (FN hk').2, hk.trans hk', c1, ?_, ?_⟩
        · simp only [nx2, decide_true, Bool.true_and]; exact c2
        · simp only [nx2, if_true]; exact c3
    · have n1 : 0 < (cn S i) := by omega
      simp only [n1, decide_true, Bool.true_and, if_true] at h2 h3
      have nx2 : 0 < cn S (i + 1) := by omega
      by_cases hb : ((cn S i) : Int) + 1 = B
      · refine go9_nx b X O R V N T i l.length cap (trn S A) x1 x2 A B  (isT A) g (cn S i) (cn S i) l2 _ (by omega) hc u0 u1 u5 u10 u11 u12 u13 u14 u15 u16 u17 u18 u19 u20 u21 u22 u23 u24 u25 (.func (.func 55) #[] #[.pointer (some ⟨C, 0, none⟩)]) u28 u29 u30 u31 u32 u33 u34 u35 u36 u37 u38 u39 u40 u41 u42 u43 u44 u45 u46 u47 u48 u49 u50 u51 u52 u53 u54 u55 u56 u57 u58 u59 u60 u61 u62 u63 u64 u65 u66 u67 u68 u69 u70 u71 u72 u73 u74 u75 u76 u77 u78 u79 u80 u81 u82 u83 u84 u85 u86 u87 u88 u89 u90 u91 u92 u93 u94 u95 u96 u97 W h3 kX kO kV h1 h2 kl dX dO dV dN dT dNT hqn hq ll hi n1 hb (fun a' W' hk' c1 c2 c3 => ?_)
        exact ⟨(FN hk').1, (cn S i) + 1, ⟨rfl, by omega, by omega⟩, hk.trans hk', c1, c2, c3⟩
      · refine go9_n b X O R V N T i l.length cap (trn S A) x1 x2 A B  (isT A) g (cn S i) (cn S i) l2 _ (by omega) hc u0 u1 u5 u10 u11 u12 u13 u14 u15 u16 u17 u18 u19 u20 u21 u22 u23 u24 u25 (.func (.func 55) #[] #[.pointer (some ⟨C, 0, none⟩)]) u28 u29 u30 u31 u32 u33 u34 u35 u36 u37 u38 u39 u40 u41 u42 u43 u44 u45 u46 u47 u48 u49 u50 u51 u52 u53 u54 u55 u56 u57 u58 u59 u60 u61 u62 u63 u64 u65 u66 u67 u68 u69 u70 u71 u72 u73 u74 u75 u76 u77 u78 u79 u80 u81 u82 u83 u84 u85 u86 u87 u88 u89 u90 u91 u92 u93 u94 u95 u96 u97 W h3 kX kO kV h1 h2 kl dX dO dV dN dT dNT hqn hq ll hi n1 hb (fun a' W' hk' c1 c2 c3 => ?_)
        rw [nx] at c1
        refine ⟨(FN hk').1, (FN hk').2, hk.trans hk', c1, ?_, ?_⟩
        · simp only [nx2, decide_true, Bool.true_and]; exact c2
        · simp only [nx2, if_true]; exact c3
  case done =>
    rintro D W hD ⟨hk, h1, h2, h3⟩ hd
    have en : cn S 262144 = l.length := by omega
    simp only [en] at h1 h2 h3
    refine HR.out D l.length _ _ W hD hk h1 h2 h3 ?_ (.inl rfl) hd
    by_cases c0 : 0 < l.length
    · simp only [c0, decide_true, Bool.true_and, if_true]
      cases hA : isT A with
      | true => exact .inl ⟨by first | rfl | trivial, by first | rfl | trivial⟩
      | false => exact .inr ⟨by first | rfl | trivial, trn_out S A hA⟩
    · simp only [c0, decide_false, Bool.false_and, if_false]
      exact .inr ⟨by first | rfl | trivial, by first | rfl | trivial⟩
  case stop =>
    rintro D cd W hD ⟨n, ⟨rfl, hn, n0⟩, hk, h1, h2, h3⟩ hd
    refine HE.out _ _ (HR.out D n _ _ W hD hk h1 h2 h3 ?_ (.inr hn) hd)
    cases hA : isT A with
    | true => exact .inl ⟨by first | rfl | trivial, by first | rfl | trivial⟩
    | false => exact .inr ⟨by first | rfl | trivial, trn_out S A hA⟩
theorem rng9_s (b C X O R V N T cap : Nat) (p : Option Addr) (l : List Int) (S : Nat → Bool) (hS : Tl S l) (x1 x2 A B : Int) {sg c : Code} (has : (Tryd.f40.body.bind rfAs) = some sg) (hc : (Tryd.f40.body.bind rfOf) = some c) (u0 u1 u5 u9 u10 u11 u12 u13 u14 u15 u16 u17 u18 u19 u20 u21 u22 u23 u24 u25 u27 u28 u29 u30 u31 u32 u33 u34 u35 u36 u37 u38 u39 u40 u41 u42 u43 u44 u45 u46 u47 u48 u49 u50 u51 u52 u53 u54 u55 u56 u57 u58 u59 u60 u61 u62 u63 u64 u65 u66 u67 u68 u69 u70 u71 u72 u73 u74 u75 u76 u77 u78 u79 u80 u81 u82 u83 u84 u85 u86 u87 u88 u89 u90 u91 u92 u93 u94 u95 u96 u97 : Value) (ds : List Deferred) (W0 : World) (hB : Bm W0 b S) (hL : Laid W0) (h0b : 0 < b)
    (hX : W0.heap[X]? = some (.cells #[.pointer (some ⟨b, 0, none⟩), .slice p l.length cap] 32 (0, 0)))
    (hO : W0.heap[O]? = some (.cells #[.int .i64 9, .int .i64 x1, .int .i64 x2, .int .i64 A, .int .i64 B] 35 (0, 0)))
    (hV : W0.heap[V]? = some (.cells #[.int .i64 1] 3 (0, 0)))
    (hN : W0.heap[N]? = some (.cells #[.int .i64 0] 3 (0, 0)))
    (hT : W0.heap[T]? = some (.cells #[.bool false] 4 (0, 0)))
    (hC : W0.heap[C]? = some (.cells #[.pointer (some ⟨b, 0, none⟩)] 23 (0, 0)))
    (hl : Lr W0 p l) (hg : ∀ g, p = some ⟨g, 0, none⟩ → 0 < l.length → g ≠ b ∧ g ≠ N ∧ g ≠ T)
    (dX : X ≠ b ∧ X ≠ N ∧ X ≠ T) (dO : O ≠ b ∧ O ≠ N ∧ O ≠ T) (dV : V ≠ b ∧ V ≠ N ∧ V ≠ T) (dN : N ≠ b) (dT : T ≠ b) (dNT : N ≠ T) (dN0 : N ≠ 0) (dT0 : T ≠ 0)
    {Q : Exit → Act → World → Prop} (hex : ∀ a' W, Q .normal a' W → (Code.exit 2).wpIn Fence.wide 5 Tryd.prog Q a' W)
    (hrest : ∀ (D n : Nat) (tb : Bool) (S' : Nat → Bool) (W : World), W0.heap.size ≤ D → K3 b N T W0 W → W.heap[N]? = some (.cells #[.int .i64 (n : Int)] 3 (0, 0)) → W.heap[T]? = some (.cells #[.bool tb] 4 (0, 0)) → Bm W b S' → (tb = false ∧ S' = S) → n = l.length → W.heap[D]? = some (.deferred (some [])) →
      Q .normal { tmps := #[u0, u1, .pointer (some ⟨X, 0, none⟩), .pointer (some ⟨O, 0, none⟩), .pointer (some ⟨R, 0, none⟩), u5, .pointer (some ⟨V, 0, none⟩), .pointer (some ⟨N, 0, none⟩), .pointer (some ⟨T, 0, none⟩), u9, u10, u11, u12, u13, u14, u15, u16, u17, u18, u19, u20, u21, u22, u23, u24, u25, .func (.func 55) #[] #[.pointer (some ⟨C, 0, none⟩)], u27, u28, u29, u30, u31, u32, u33, u34, u35, u36, u37, u38, u39, u40, u41, u42, u43, u44, u45, u46, u47, u48, u49, u50, u51, u52, u53, u54, u55, u56, u57, u58, u59, u60, u61, u62, u63, u64, u65, u66, u67, u68, u69, u70, u71, u72, u73, u74, u75, u76, u77, u78, u79, u80, u81, u82, u83, u84, u85, u86, u87, u88, u89, u90, u91, u92, u93, u94, u95, u96, u97], defers := { target := .collected D, args := #[] } :: ds } W) :
    (Code.rangeFunc (.tmp 26) #[27] sg c).wpIn Fence.wide 5 Tryd.prog Q { tmps := #[u0, u1, .pointer (some ⟨X, 0, none⟩), .pointer (some ⟨O, 0, none⟩), .pointer (some ⟨R, 0, none⟩), u5, .pointer (some ⟨V, 0, none⟩), .pointer (some ⟨N, 0, none⟩), .pointer (some ⟨T, 0, none⟩), u9, u10, u11, u12, u13, u14, u15, u16, u17, u18, u19, u20, u21, u22, u23, u24, u25, .func (.func 55) #[] #[.pointer (some ⟨C, 0, none⟩)], u27, u28, u29, u30, u31, u32, u33, u34, u35, u36, u37, u38, u39, u40, u41, u42, u43, u44, u45, u46, u47, u48, u49, u50, u51, u52, u53, u54, u55, u56, u57, u58, u59, u60, u61, u62, u63, u64, u65, u66, u67, u68, u69, u70, u71, u72, u73, u74, u75, u76, u77, u78, u79, u80, u81, u82, u83, u84, u85, u86, u87, u88, u89, u90, u91, u92, u93, u94, u95, u96, u97], defers := ds } W0 := by
  have lt : ∀ {j : Nat} {o : Obj}, W0.heap[j]? = some o → j < W0.heap.size := fun h => (Array.getElem?_eq_some_iff.1 h).1
  have bX := lt hX
  have bO := lt hO
  have bV := lt hV
  have bN := lt hN
  have bT := lt hT
  have bb := hB.lt
  have ll : l.length ≤ 262144 := by rw [hS.len]; exact len_le S
  have le : l.length = cn S 262144 := hS.len
  have HR := hid hrest
  have HE := hid hex
  clear hrest hex
  refine range_all (by omega) (b := b) (C := C) (S := S) rfl rfl hB (row_cell hC 0)
    (fun i W => K3 b N T W0 W ∧ W.heap[N]? = some (.cells #[.int .i64 ((cn S i : Nat) : Int)] 3 (0, 0)) ∧ W.heap[T]? = some (.cells #[.bool false] 4 (0, 0)) ∧ Bm W b S)
    (fun _ _ => False)
    ?hL ?hs ?hI ?hIx ?hgr ?h0
    (fun i => { tmps := #[u0, u1, .pointer (some ⟨X, 0, none⟩), .pointer (some ⟨O, 0, none⟩), .pointer (some ⟨R, 0, none⟩), u5, .pointer (some ⟨V, 0, none⟩), .pointer (some ⟨N, 0, none⟩), .pointer (some ⟨T, 0, none⟩), .int .i64 (i : Int), u10, u11, u12, u13, u14, u15, u16, u17, u18, u19, u20, u21, u22, u23, u24, u25, .func (.func 55) #[] #[.pointer (some ⟨C, 0, none⟩)], .int .i64 (i : Int), u28, u29, u30, u31, u32, u33, u34, u35, u36, u37, u38, u39, u40, u41, u42, u43, u44, u45, u46, u47, u48, u49, u50, u51, u52, u53, u54, u55, u56, u57, u58, u59, u60, u61, u62, u63, u64, u65, u66, u67, u68, u69, u70, u71, u72, u73, u74, u75, u76, u77, u78, u79, u80, u81, u82, u83, u84, u85, u86, u87, u88, u89, u90, u91, u92, u93, u94, u95, u96, u97], defers := [] })
    ?assign ?body ?done ?stop
  case hL =>
    rintro i W ⟨hk, _⟩
    exact hL.same (hk.obj 0 (by omega) (by omega) (by omega) (by omega))
  case hs =>
    intro i W hi hz h
    have e : cn S (i + 1) = cn S i := by rw [cn, hz]; rfl
    simp only [e] at h ⊢
    exact h
  case hI =>
    intro i
    exact blind_k3.and ((blind_row bN).and ((blind_row bT).and (blind_bm bb)))
  case hIx =>
    intro cd W W' row hs hgr hr
    exact hs.elim
  case hgr =>
    rintro i W W' ⟨hk, h1, h2, h3⟩ hw
    exact ⟨hk.trans (k3_below hw), (hw.block N (Array.getElem?_eq_some_iff.1 h1).1).trans h1, (hw.block T (Array.getElem?_eq_some_iff.1 h2).1).trans h2, h3.on hw⟩
  case h0 =>
    have e0 : cn S 0 = 0 := rfl
    simp only [e0]
    exact ⟨K3.refl _ _ _ _, hN, hT, hB⟩
  case assign =>
    intro l2 i W K hK
    simp only [Tryd.f40, rfAs, Option.bind, Option.or] at has
    injection has with has
    subst has
    clear HR HE hX hO hV hN hT hC hl hg hS hB hL le ll bX bO bV bN bT bb lt dX dO dV dN dT dNT dN0 dT0
    gi_wp2
    exact hK
  case body =>
    rintro l2 i W hsz hi hSi ⟨hk, h1, h2, h3⟩
    obtain ⟨hq, e⟩ := hS.at hi hSi
    obtain ⟨g, rfl, hcell⟩ := hl (cn S i) hq
    rw [e] at hcell
    obtain ⟨g1, g2, g3⟩ := hg g rfl (by omega)
    have e1 : cn S (i + 1) = cn S i + 1 := by rw [cn, hSi]; rfl
    have kX := (hk.obj X bX dX.1 dX.2.1 dX.2.2).trans hX
    have kO := (hk.obj O bO dO.1 dO.2.1 dO.2.2).trans hO
    have kV := (hk.obj V bV dV.1 dV.2.1 dV.2.2).trans hV
    have kl := (cell_same (q := cn S i) (hk.obj g (cell_lt hcell) g1 g2 g3)).trans hcell
    obtain ⟨row, hrow, _⟩ := id h3
    have FN : ∀ {W' : World}, K3 b N T W W' → KeepsOthers W W' ∧ Ab (W0.heap.size + 2) W W' := fun h => ⟨h.keeps hrow h1 h2 rfl rfl rfl, h.ab (by omega) (by omega) (by omega)⟩
    have hqn : cn S i = cn S i := rfl
    have nx : cn S i + 1 = cn S (i + 1) := by omega
    refine go9_s b X O R V N T i l.length cap S x1 x2 A B  false g (cn S i) (cn S i) l2 _ (by omega) hc u0 u1 u5 u10 u11 u12 u13 u14 u15 u16 u17 u18 u19 u20 u21 u22 u23 u24 u25 (.func (.func 55) #[] #[.pointer (some ⟨C, 0, none⟩)]) u28 u29 u30 u31 u32 u33 u34 u35 u36 u37 u38 u39 u40 u41 u42 u43 u44 u45 u46 u47 u48 u49 u50 u51 u52 u53 u54 u55 u56 u57 u58 u59 u60 u61 u62 u63 u64 u65 u66 u67 u68 u69 u70 u71 u72 u73 u74 u75 u76 u77 u78 u79 u80 u81 u82 u83 u84 u85 u86 u87 u88 u89 u90 u91 u92 u93 u94 u95 u96 u97 W h3 kX kO kV h1 h2 kl dX dO dV dN dT dNT hqn hq ll hi (fun a' W' hk' c1 c2 c3 => ?_)
    rw [nx] at c1
    exact ⟨(FN hk').1, (FN hk').2, hk.trans hk', c1, c2, c3⟩
  case done =>
    rintro D W hD ⟨hk, h1, h2, h3⟩ hd
    have en : cn S 262144 = l.length := by omega
    simp only [en] at h1 h2 h3
    exact HR.out D l.length _ _ W hD hk h1 h2 h3 ⟨rfl, rfl⟩ rfl hd
  case stop =>
    intro D cd W hD hx
    exact hx.elim
theorem rng10_f (b C X O R V N T cap : Nat) (p : Option Addr) (l : List Int) (S : Nat → Bool) (hS : Tl S l) (x1 x2 A B : Int) {sg c : Code} (has : (Tryd.f40.body.bind rfAs) = some sg) (hc : (Tryd.f40.body.bind rfOf) = some c) (u0 u1 u5 u9 u10 u11 u12 u13 u14 u15 u16 u17 u18 u19 u20 u21 u22 u23 u24 u25 u27 u28 u29 u30 u31 u32 u33 u34 u35 u36 u37 u38 u39 u40 u41 u42 u43 u44 u45 u46 u47 u48 u49 u50 u51 u52 u53 u54 u55 u56 u57 u58 u59 u60 u61 u62 u63 u64 u65 u66 u67 u68 u69 u70 u71 u72 u73 u74 u75 u76 u77 u78 u79 u80 u81 u82 u83 u84 u85 u86 u87 u88 u89 u90 u91 u92 u93 u94 u95 u96 u97 : Value) (ds : List Deferred) (W0 : World) (hB : Bm W0 b S) (hL : Laid W0) (h0b : 0 < b)
    (hX : W0.heap[X]? = some (.cells #[.pointer (some ⟨b, 0, none⟩), .slice p l.length cap] 32 (0, 0)))
    (hO : W0.heap[O]? = some (.cells #[.int .i64 10, .int .i64 x1, .int .i64 x2, .int .i64 A, .int .i64 B] 35 (0, 0)))
    (hV : W0.heap[V]? = some (.cells #[.int .i64 0] 3 (0, 0)))
    (hN : W0.heap[N]? = some (.cells #[.int .i64 0] 3 (0, 0)))
    (hT : W0.heap[T]? = some (.cells #[.bool false] 4 (0, 0)))
    (hC : W0.heap[C]? = some (.cells #[.pointer (some ⟨b, 0, none⟩)] 23 (0, 0)))
    (hl : Lr W0 p l) (hg : ∀ g, p = some ⟨g, 0, none⟩ → 0 < l.length → g ≠ b ∧ g ≠ N ∧ g ≠ T)
    (dX : X ≠ b ∧ X ≠ N ∧ X ≠ T) (dO : O ≠ b ∧ O ≠ N ∧ O ≠ T) (dV : V ≠ b ∧ V ≠ N ∧ V ≠ T) (dN : N ≠ b) (dT : T ≠ b) (dNT : N ≠ T) (dN0 : N ≠ 0) (dT0 : T ≠ 0)
    {Q : Exit → Act → World → Prop} (hex : ∀ a' W, Q .normal a' W → (Code.exit 2).wpIn Fence.wide 5 Tryd.prog Q a' W)
    (hrest : ∀ (D n : Nat) (tb : Bool) (S' : Nat → Bool) (W : World), W0.heap.size ≤ D → K3 b N T W0 W → W.heap[N]? = some (.cells #[.int .i64 (n : Int)] 3 (0, 0)) → W.heap[T]? = some (.cells #[.bool tb] 4 (0, 0)) → Bm W b S' → ((tb = true ∧ S' = trn S A) ∨ (tb = false ∧ S' = S)) → (n = l.length ∨ (n : Int) = B) → W.heap[D]? = some (.deferred (some [])) →
      Q .normal { tmps := #[u0, u1, .pointer (some ⟨X, 0, none⟩), .pointer (some ⟨O, 0, none⟩), .pointer (some ⟨R, 0, none⟩), u5, .pointer (some ⟨V, 0, none⟩), .pointer (some ⟨N, 0, none⟩), .pointer (some ⟨T, 0, none⟩), u9, u10, u11, u12, u13, u14, u15, u16, u17, u18, u19, u20, u21, u22, u23, u24, u25, .func (.func 56) #[] #[.pointer (some ⟨C, 0, none⟩)], u27, u28, u29, u30, u31, u32, u33, u34, u35, u36, u37, u38, u39, u40, u41, u42, u43, u44, u45, u46, u47, u48, u49, u50, u51, u52, u53, u54, u55, u56, u57, u58, u59, u60, u61, u62, u63, u64, u65, u66, u67, u68, u69, u70, u71, u72, u73, u74, u75, u76, u77, u78, u79, u80, u81, u82, u83, u84, u85, u86, u87, u88, u89, u90, u91, u92, u93, u94, u95, u96, u97], defers := { target := .collected D, args := #[] } :: ds } W) :
    (Code.rangeFunc (.tmp 26) #[27] sg c).wpIn Fence.wide 5 Tryd.prog Q { tmps := #[u0, u1, .pointer (some ⟨X, 0, none⟩), .pointer (some ⟨O, 0, none⟩), .pointer (some ⟨R, 0, none⟩), u5, .pointer (some ⟨V, 0, none⟩), .pointer (some ⟨N, 0, none⟩), .pointer (some ⟨T, 0, none⟩), u9, u10, u11, u12, u13, u14, u15, u16, u17, u18, u19, u20, u21, u22, u23, u24, u25, .func (.func 56) #[] #[.pointer (some ⟨C, 0, none⟩)], u27, u28, u29, u30, u31, u32, u33, u34, u35, u36, u37, u38, u39, u40, u41, u42, u43, u44, u45, u46, u47, u48, u49, u50, u51, u52, u53, u54, u55, u56, u57, u58, u59, u60, u61, u62, u63, u64, u65, u66, u67, u68, u69, u70, u71, u72, u73, u74, u75, u76, u77, u78, u79, u80, u81, u82, u83, u84, u85, u86, u87, u88, u89, u90, u91, u92, u93, u94, u95, u96, u97], defers := ds } W0 := by
  have lt : ∀ {j : Nat} {o : Obj}, W0.heap[j]? = some o → j < W0.heap.size := fun h => (Array.getElem?_eq_some_iff.1 h).1
  have bX := lt hX
  have bO := lt hO
  have bV := lt hV
  have bN := lt hN
  have bT := lt hT
  have bb := hB.lt
  have ll : l.length ≤ 262144 := by rw [hS.len]; exact len_le S
  have le : l.length = cn S 262144 := hS.len
  have HR := hid hrest
  have HE := hid hex
  clear hrest hex
  refine range_back (by omega) (b := b) (C := C) (S := S) rfl rfl hB (row_cell hC 0)
    (fun i W => K3 b N T W0 W ∧ W.heap[N]? = some (.cells #[.int .i64 ((l.length - cn S i : Nat) : Int)] 3 (0, 0)) ∧ W.heap[T]? = some (.cells #[.bool (decide (0 < (l.length - cn S i)) && isT A)] 4 (0, 0)) ∧ Bm W b (if 0 < (l.length - cn S i) then trn S A else S))
    (fun cd W => ∃ n : Nat, (cd = .exit 2 ∧ (n : Int) = B ∧ 0 < n) ∧ K3 b N T W0 W ∧ W.heap[N]? = some (.cells #[.int .i64 (n : Int)] 3 (0, 0)) ∧ W.heap[T]? = some (.cells #[.bool (isT A)] 4 (0, 0)) ∧ Bm W b (trn S A))
    ?hL ?hs ?hI ?hIx ?hgr ?h0
    (fun i => { tmps := #[u0, u1, .pointer (some ⟨X, 0, none⟩), .pointer (some ⟨O, 0, none⟩), .pointer (some ⟨R, 0, none⟩), u5, .pointer (some ⟨V, 0, none⟩), .pointer (some ⟨N, 0, none⟩), .pointer (some ⟨T, 0, none⟩), .int .i64 (i : Int), u10, u11, u12, u13, u14, u15, u16, u17, u18, u19, u20, u21, u22, u23, u24, u25, .func (.func 56) #[] #[.pointer (some ⟨C, 0, none⟩)], .int .i64 (i : Int), u28, u29, u30, u31, u32, u33, u34, u35, u36, u37, u38, u39, u40, u41, u42, u43, u44, u45, u46, u47, u48, u49, u50, u51, u52, u53, u54, u55, u56, u57, u58, u59, u60, u61, u62, u63, u64, u65, u66, u67, u68, u69, u70, u71, u72, u73, u74, u75, u76, u77, u78, u79, u80, u81, u82, u83, u84, u85, u86, u87, u88, u89, u90, u91, u92, u93, u94, u95, u96, u97], defers := [] })
    ?assign ?body ?done ?stop
  case hL =>
    rintro i W ⟨hk, _⟩
    exact hL.same (hk.obj 0 (by omega) (by omega) (by omega) (by omega))
  case hs =>
    intro i W hi hz h
    have e : cn S (i + 1) = cn S i := by rw [cn, hz]; rfl
    simp only [e] at h ⊢
    exact h
  case hI =>
    intro i
    exact blind_k3.and ((blind_row bN).and ((blind_row bT).and (blind_bm bb)))
  case hIx =>
    intro cd W W' row hs hgr hr
    obtain ⟨n, h⟩ := hs
    exact ⟨n, ((blind_pure _).and (blind_k3.and ((blind_row bN).and ((blind_row bT).and (blind_bm bb))))) W W' row h hgr hr⟩
  case hgr =>
    rintro i W W' ⟨hk, h1, h2, h3⟩ hw
    exact ⟨hk.trans (k3_below hw), (hw.block N (Array.getElem?_eq_some_iff.1 h1).1).trans h1, (hw.block T (Array.getElem?_eq_some_iff.1 h2).1).trans h2, h3.on hw⟩
  case h0 =>
    have e0 : l.length - cn S 262144 = 0 := by omega
    simp only [e0]
    exact ⟨K3.refl _ _ _ _, hN, by simpa using hT, by simpa using hB⟩
  case assign =>
    intro l2 i W K hK
    simp only [Tryd.f40, rfAs, Option.bind, Option.or] at has
    injection has with has
    subst has
    clear HR HE hX hO hV hN hT hC hl hg hS hB hL le ll bX bO bV bN bT bb lt dX dO dV dN dT dNT dN0 dT0
    gi_wp2
    exact hK
  case body =>
    rintro l2 i W hsz hi hSi ⟨hk, h1, h2, h3⟩
    obtain ⟨hq, e⟩ := hS.at hi hSi
    obtain ⟨g, rfl, hcell⟩ := hl (cn S i) hq
    rw [e] at hcell
    obtain ⟨g1, g2, g3⟩ := hg g rfl (by omega)
    have e1 : cn S (i + 1) = cn S i + 1 := by rw [cn, hSi]; rfl
    have kX := (hk.obj X bX dX.1 dX.2.1 dX.2.2).trans hX
    have kO := (hk.obj O bO dO.1 dO.2.1 dO.2.2).trans hO
    have kV := (hk.obj V bV dV.1 dV.2.1 dV.2.2).trans hV
    have kl := (cell_same (q := cn S i) (hk.obj g (cell_lt hcell) g1 g2 g3)).trans hcell
    obtain ⟨row, hrow, _⟩ := id h3
    have FN : ∀ {W' : World}, K3 b N T W W' → KeepsOthers W W' ∧ Ab (W0.heap.size + 2) W W' := fun h => ⟨h.keeps hrow h1 h2 rfl rfl rfl, h.ab (by omega) (by omega) (by omega)⟩
    obtain ⟨n, hn⟩ : ∃ n, l.length - cn S (i + 1) = n := ⟨_, rfl⟩
    have hqn : cn S i + n + 1 = l.length := by omega
    have nx : n + 1 = l.length - cn S i := by omega
    simp only [hn] at h1 h2 h3
    by_cases n0 : n = 0
    · simp only [n0, Nat.lt_irrefl, decide_false, Bool.false_and, if_false] at h1 h2 h3
      have nx1 : (1 : Int) = (((l.length - cn S i) : Nat) : Int) := by omega
      have nx2 : 0 < (l.length - cn S i) := by omega
      by_cases hb : (1 : Int) = B
      · refine go10_tx b X O R V N T i l.length cap S x1 x2 A B  false g (cn S i) l2 _ (by omega) hc u0 u1 u5 u10 u11 u12 u13 u14 u15 u16 u17 u18 u19 u20 u21 u22 u23 u24 u25 (.func (.func 56) #[] #[.pointer (some ⟨C, 0, none⟩)]) u28 u29 u30 u31 u32 u33 u34 u35 u36 u37 u38 u39 u40 u41 u42 u43 u44 u45 u46 u47 u48 u49 u50 u51 u52 u53 u54 u55 u56 u57 u58 u59 u60 u61 u62 u63 u64 u65 u66 u67 u68 u69 u70 u71 u72 u73 u74 u75 u76 u77 u78 u79 u80 u81 u82 u83 u84 u85 u86 u87 u88 u89 u90 u91 u92 u93 u94 u95 u96 u97 W h3 kX kO kV h1 h2 kl dX dO dV dN dT dNT (by omega) hq ll hi hb (fun a' W' hk' c1 c2 c3 => ?_)
        exact ⟨(FN hk').1, 1, ⟨rfl, hb, by omega⟩, hk.trans hk', c1, c2, c3⟩
      · refine go10_t b X O R V N T i l.length cap S x1 x2 A B  false g (cn S i) l2 _ (by omega) hc u0 u1 u5 u10 u11 u12 u13 u14 u15 u16 u17 u18 u19 u20 u21 u22 u23 u24 u25 (.func (.func 56) #[] #[.pointer (some ⟨C, 0, none⟩)]) u28 u29 u30 u31 u32 u33 u34 u35 u36 u37 u38 u39 u40 u41 u42 u43 u44 u45 u46 u47 u48 u49 u50 u51 u52 u53 u54 u55 u56 u57 u58 u59 u60 u61 u62 u63 u64 u65 u66 u67 u68 u69 u70 u71 u72 u73 u74 u75 u76 u77 u78 u79 u80 u81 u82 u83 u84 u85 u86 u87 u88 u89 u90 u91 u92 u93 u94 u95 u96 u97 W h3 kX kO kV h1 h2 kl dX dO dV dN dT dNT (by omega) hq ll hi hb (fun a' W' hk' c1 c2 c3 => ?_)
        rw [nx1] at c1
        refine ⟨(FN hk').1, (FN hk').2, hk.trans hk', c1, ?_, ?_⟩
        · simp only [nx2, decide_true, Bool.true_and]; exact c2
        · simp only [nx2, if_true]; exact c3
    · have n1 : 0 < n := by omega
      simp only [n1, decide_true, Bool.true_and, if_true] at h2 h3
      have nx2 : 0 < (l.length - cn S i) := by omega
      by_cases hb : (n : Int) + 1 = B
      · refine go10_nx b X O R V N T i l.length cap (trn S A) x1 x2 A B  (isT A) g n (cn S i) l2 _ (by omega) hc u0 u1 u5 u10 u11 u12 u13 u14 u15 u16 u17 u18 u19 u20 u21 u22 u23 u24 u25 (.func (.func 56) #[] #[.pointer (some ⟨C, 0, none⟩)]) u28 u29 u30 u31 u32 u33 u34 u35 u36 u37 u38 u39 u40 u41 u42 u43 u44 u45 u46 u47 u48 u49 u50 u51 u52 u53 u54 u55 u56 u57 u58 u59 u60 u61 u62 u63 u64 u65 u66 u67 u68 u69 u70 u71 u72 u73 u74 u75 u76 u77 u78 u79 u80 u81 u82 u83 u84 u85 u86 u87 u88 u89 u90 u91 u92 u93 u94 u95 u96 u97 W h3 kX kO kV h1 h2 kl dX dO dV dN dT dNT hqn hq ll hi n1 hb (fun a' W' hk' c1 c2 c3 => ?_)
        exact ⟨(FN hk').1, n + 1, ⟨rfl, by omega, by omega⟩, hk.trans hk', c1, c2, c3⟩
      · refine go10_n b X O R V N T i l.length cap (trn S A) x1 x2 A B  (isT A) g n (cn S i) l2 _ (by omega) hc u0 u1 u5 u10 u11 u12 u13 u14 u15 u16 u17 u18 u19 u20 u21 u22 u23 u24 u25 (.func (.func 56) #[] #[.pointer (some ⟨C, 0, none⟩)]) u28 u29 u30 u31 u32 u33 u34 u35 u36 u37 u38 u39 u40 u41 u42 u43 u44 u45 u46 u47 u48 u49 u50 u51 u52 u53 u54 u55 u56 u57 u58 u59 u60 u61 u62 u63 u64 u65 u66 u67 u68 u69 u70 u71 u72 u73 u74 u75 u76 u77 u78 u79 u80 u81 u82 u83 u84 u85 u86 u87 u88 u89 u90 u91 u92 u93 u94 u95 u96 u97 W h3 kX kO kV h1 h2 kl dX dO dV dN dT dNT hqn hq ll hi n1 hb (fun a' W' hk' c1 c2 c3 => ?_)
        rw [nx] at c1
        refine ⟨(FN hk').1, (FN hk').2, hk.trans hk', c1, ?_, ?_⟩
        · simp only [nx2, decide_true, Bool.true_and]; exact c2
        · simp only [nx2, if_true]; exact c3
  case done =>
    rintro D W hD ⟨hk, h1, h2, h3⟩ hd
    have en : l.length - cn S 0 = l.length := by rw [show cn S 0 = 0 from rfl]; omega
    simp only [en] at h1 h2 h3
    refine HR.out D l.length _ _ W hD hk h1 h2 h3 ?_ (.inl rfl) hd
    by_cases c0 : 0 < l.length
    · simp only [c0, decide_true, Bool.true_and, if_true]
      cases hA : isT A with
      | true => exact .inl ⟨by first | rfl | trivial, by first | rfl | trivial⟩
      | false => exact .inr ⟨by first | rfl | trivial, trn_out S A hA⟩
    · simp only [c0, decide_false, Bool.false_and, if_false]
      exact .inr ⟨by first | rfl | trivial, by first | rfl | trivial⟩
  case stop =>
    rintro D cd W hD ⟨n, ⟨rfl, hn, n0⟩, hk, h1, h2, h3⟩ hd
    refine HE.out _ _ (HR.out D n _ _ W hD hk h1 h2 h3 ?_ (.inr hn) hd)
    cases hA : isT A with
    | true => exact .inl ⟨by first | rfl | trivial, by first | rfl | trivial⟩
    | false => exact .inr ⟨by first | rfl | trivial, trn_out S A hA⟩
theorem rng10_s (b C X O R V N T cap : Nat) (p : Option Addr) (l : List Int) (S : Nat → Bool) (hS : Tl S l) (x1 x2 A B : Int) {sg c : Code} (has : (Tryd.f40.body.bind rfAs) = some sg) (hc : (Tryd.f40.body.bind rfOf) = some c) (u0 u1 u5 u9 u10 u11 u12 u13 u14 u15 u16 u17 u18 u19 u20 u21 u22 u23 u24 u25 u27 u28 u29 u30 u31 u32 u33 u34 u35 u36 u37 u38 u39 u40 u41 u42 u43 u44 u45 u46 u47 u48 u49 u50 u51 u52 u53 u54 u55 u56 u57 u58 u59 u60 u61 u62 u63 u64 u65 u66 u67 u68 u69 u70 u71 u72 u73 u74 u75 u76 u77 u78 u79 u80 u81 u82 u83 u84 u85 u86 u87 u88 u89 u90 u91 u92 u93 u94 u95 u96 u97 : Value) (ds : List Deferred) (W0 : World) (hB : Bm W0 b S) (hL : Laid W0) (h0b : 0 < b)
    (hX : W0.heap[X]? = some (.cells #[.pointer (some ⟨b, 0, none⟩), .slice p l.length cap] 32 (0, 0)))
    (hO : W0.heap[O]? = some (.cells #[.int .i64 10, .int .i64 x1, .int .i64 x2, .int .i64 A, .int .i64 B] 35 (0, 0)))
    (hV : W0.heap[V]? = some (.cells #[.int .i64 1] 3 (0, 0)))
    (hN : W0.heap[N]? = some (.cells #[.int .i64 0] 3 (0, 0)))
    (hT : W0.heap[T]? = some (.cells #[.bool false] 4 (0, 0)))
    (hC : W0.heap[C]? = some (.cells #[.pointer (some ⟨b, 0, none⟩)] 23 (0, 0)))
    (hl : Lr W0 p l) (hg : ∀ g, p = some ⟨g, 0, none⟩ → 0 < l.length → g ≠ b ∧ g ≠ N ∧ g ≠ T)
    (dX : X ≠ b ∧ X ≠ N ∧ X ≠ T) (dO : O ≠ b ∧ O ≠ N ∧ O ≠ T) (dV : V ≠ b ∧ V ≠ N ∧ V ≠ T) (dN : N ≠ b) (dT : T ≠ b) (dNT : N ≠ T) (dN0 : N ≠ 0) (dT0 : T ≠ 0)
    {Q : Exit → Act → World → Prop} (hex : ∀ a' W, Q .normal a' W → (Code.exit 2).wpIn Fence.wide 5 Tryd.prog Q a' W)
    (hrest : ∀ (D n : Nat) (tb : Bool) (S' : Nat → Bool) (W : World), W0.heap.size ≤ D → K3 b N T W0 W → W.heap[N]? = some (.cells #[.int .i64 (n : Int)] 3 (0, 0)) → W.heap[T]? = some (.cells #[.bool tb] 4 (0, 0)) → Bm W b S' → (tb = false ∧ S' = S) → n = l.length → W.heap[D]? = some (.deferred (some [])) →
      Q .normal { tmps := #[u0, u1, .pointer (some ⟨X, 0, none⟩), .pointer (some ⟨O, 0, none⟩), .pointer (some ⟨R, 0, none⟩), u5, .pointer (some ⟨V, 0, none⟩), .pointer (some ⟨N, 0, none⟩), .pointer (some ⟨T, 0, none⟩), u9, u10, u11, u12, u13, u14, u15, u16, u17, u18, u19, u20, u21, u22, u23, u24, u25, .func (.func 56) #[] #[.pointer (some ⟨C, 0, none⟩)], u27, u28, u29, u30, u31, u32, u33, u34, u35, u36, u37, u38, u39, u40, u41, u42, u43, u44, u45, u46, u47, u48, u49, u50, u51, u52, u53, u54, u55, u56, u57, u58, u59, u60, u61, u62, u63, u64, u65, u66, u67, u68, u69, u70, u71, u72, u73, u74, u75, u76, u77, u78, u79, u80, u81, u82, u83, u84, u85, u86, u87, u88, u89, u90, u91, u92, u93, u94, u95, u96, u97], defers := { target := .collected D, args := #[] } :: ds } W) :
    (Code.rangeFunc (.tmp 26) #[27] sg c).wpIn Fence.wide 5 Tryd.prog Q { tmps := #[u0, u1, .pointer (some ⟨X, 0, none⟩), .pointer (some ⟨O, 0, none⟩), .pointer (some ⟨R, 0, none⟩), u5, .pointer (some ⟨V, 0, none⟩), .pointer (some ⟨N, 0, none⟩), .pointer (some ⟨T, 0, none⟩), u9, u10, u11, u12, u13, u14, u15, u16, u17, u18, u19, u20, u21, u22, u23, u24, u25, .func (.func 56) #[] #[.pointer (some ⟨C, 0, none⟩)], u27, u28, u29, u30, u31, u32, u33, u34, u35, u36, u37, u38, u39, u40, u41, u42, u43, u44, u45, u46, u47, u48, u49, u50, u51, u52, u53, u54, u55, u56, u57, u58, u59, u60, u61, u62, u63, u64, u65, u66, u67, u68, u69, u70, u71, u72, u73, u74, u75, u76, u77, u78, u79, u80, u81, u82, u83, u84, u85, u86, u87, u88, u89, u90, u91, u92, u93, u94, u95, u96, u97], defers := ds } W0 := by
  have lt : ∀ {j : Nat} {o : Obj}, W0.heap[j]? = some o → j < W0.heap.size := fun h => (Array.getElem?_eq_some_iff.1 h).1
  have bX := lt hX
  have bO := lt hO
  have bV := lt hV
  have bN := lt hN
  have bT := lt hT
  have bb := hB.lt
  have ll : l.length ≤ 262144 := by rw [hS.len]; exact len_le S
  have le : l.length = cn S 262144 := hS.len
  have HR := hid hrest
  have HE := hid hex
  clear hrest hex
  refine range_back (by omega) (b := b) (C := C) (S := S) rfl rfl hB (row_cell hC 0)
    (fun i W => K3 b N T W0 W ∧ W.heap[N]? = some (.cells #[.int .i64 ((l.length - cn S i : Nat) : Int)] 3 (0, 0)) ∧ W.heap[T]? = some (.cells #[.bool false] 4 (0, 0)) ∧ Bm W b S)
    (fun _ _ => False)
    ?hL ?hs ?hI ?hIx ?hgr ?h0
    (fun i => { tmps := #[u0, u1, .pointer (some ⟨X, 0, none⟩), .pointer (some ⟨O, 0, none⟩), .pointer (some ⟨R, 0, none⟩), u5, .pointer (some ⟨V, 0, none⟩), .pointer (some ⟨N, 0, none⟩), .pointer (some ⟨T, 0, none⟩), .int .i64 (i : Int), u10, u11, u12, u13, u14, u15, u16, u17, u18, u19, u20, u21, u22, u23, u24, u25, .func (.func 56) #[] #[.pointer (some ⟨C, 0, none⟩)], .int .i64 (i : Int), u28, u29, u30, u31, u32, u33, u34, u35, u36, u37, u38, u39, u40, u41, u42, u43, u44, u45, u46, u47, u48, u49, u50, u51, u52, u53, u54, u55, u56, u57, u58, u59, u60, u61, u62, u63, u64, u65, u66, u67, u68, u69, u70, u71, u72, u73, u74, u75, u76, u77, u78, u79, u80, u81, u82, u83, u84, u85, u86, u87, u88, u89, u90, u91, u92, u93, u94, u95, u96, u97], defers := [] })
    ?assign ?body ?done ?stop
  case hL =>
    rintro i W ⟨hk, _⟩
    exact hL.same (hk.obj 0 (by omega) (by omega) (by omega) (by omega))
  case hs =>
    intro i W hi hz h
    have e : cn S (i + 1) = cn S i := by rw [cn, hz]; rfl
    simp only [e] at h ⊢
    exact h
  case hI =>
    intro i
    exact blind_k3.and ((blind_row bN).and ((blind_row bT).and (blind_bm bb)))
  case hIx =>
    intro cd W W' row hs hgr hr
    exact hs.elim
  case hgr =>
    rintro i W W' ⟨hk, h1, h2, h3⟩ hw
    exact ⟨hk.trans (k3_below hw), (hw.block N (Array.getElem?_eq_some_iff.1 h1).1).trans h1, (hw.block T (Array.getElem?_eq_some_iff.1 h2).1).trans h2, h3.on hw⟩
  case h0 =>
    have e0 : l.length - cn S 262144 = 0 := by omega
    simp only [e0]
    exact ⟨K3.refl _ _ _ _, hN, hT, hB⟩
  case assign =>
    intro l2 i W K hK
    simp only [Tryd.f40, rfAs, Option.bind, Option.or] at has
    injection has with has
    subst has
    clear HR HE hX hO hV hN hT hC hl hg hS hB hL le ll bX bO bV bN bT bb lt dX dO dV dN dT dNT dN0 dT0
    gi_wp2
    exact hK
  case body =>
    rintro l2 i W hsz hi hSi ⟨hk, h1, h2, h3⟩
    obtain ⟨hq, e⟩ := hS.at hi hSi
    obtain ⟨g, rfl, hcell⟩ := hl (cn S i) hq
    rw [e] at hcell
    obtain ⟨g1, g2, g3⟩ := hg g rfl (by omega)
    have e1 : cn S (i + 1) = cn S i + 1 := by rw [cn, hSi]; rfl
    have kX := (hk.obj X bX dX.1 dX.2.1 dX.2.2).trans hX
    have kO := (hk.obj O bO dO.1 dO.2.1 dO.2.2).trans hO
    have kV := (hk.obj V bV dV.1 dV.2.1 dV.2.2).trans hV
    have kl := (cell_same (q := cn S i) (hk.obj g (cell_lt hcell) g1 g2 g3)).trans hcell
    obtain ⟨row, hrow, _⟩ := id h3
    have FN : ∀ {W' : World}, K3 b N T W W' → KeepsOthers W W' ∧ Ab (W0.heap.size + 2) W W' := fun h => ⟨h.keeps hrow h1 h2 rfl rfl rfl, h.ab (by omega) (by omega) (by omega)⟩
    obtain ⟨n, hn⟩ : ∃ n, l.length - cn S (i + 1) = n := ⟨_, rfl⟩
    have hqn : cn S i + n + 1 = l.length := by omega
    have nx : n + 1 = l.length - cn S i := by omega
    simp only [hn] at h1 h2 h3
    refine go10_s b X O R V N T i l.length cap S x1 x2 A B  false g n (cn S i) l2 _ (by omega) hc u0 u1 u5 u10 u11 u12 u13 u14 u15 u16 u17 u18 u19 u20 u21 u22 u23 u24 u25 (.func (.func 56) #[] #[.pointer (some ⟨C, 0, none⟩)]) u28 u29 u30 u31 u32 u33 u34 u35 u36 u37 u38 u39 u40 u41 u42 u43 u44 u45 u46 u47 u48 u49 u50 u51 u52 u53 u54 u55 u56 u57 u58 u59 u60 u61 u62 u63 u64 u65 u66 u67 u68 u69 u70 u71 u72 u73 u74 u75 u76 u77 u78 u79 u80 u81 u82 u83 u84 u85 u86 u87 u88 u89 u90 u91 u92 u93 u94 u95 u96 u97 W h3 kX kO kV h1 h2 kl dX dO dV dN dT dNT hqn hq ll hi (fun a' W' hk' c1 c2 c3 => ?_)
    rw [nx] at c1
    exact ⟨(FN hk').1, (FN hk').2, hk.trans hk', c1, c2, c3⟩
  case done =>
    rintro D W hD ⟨hk, h1, h2, h3⟩ hd
    have en : l.length - cn S 0 = l.length := by rw [show cn S 0 = 0 from rfl]; omega
    simp only [en] at h1 h2 h3
    exact HR.out D l.length _ _ W hD hk h1 h2 h3 ⟨rfl, rfl⟩ rfl hd
  case stop =>
    intro D cd W hD hx
    exact hx.elim
end Go.Proofs.YtcbfgodknonefaaDoor
