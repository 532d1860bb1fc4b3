/-
  The document's fields, laid.
-/
import Derived.Test.YtnhipamajelalaaMgG
namespace Go.Proofs.Ytnhipamajelalaa
open Go.RowKit Go.Maps Go.Deep Go.Lib
set_option linter.unusedVariables false
set_option linter.unusedSimpArgs false

def most (t : Int) : Int := if bnd t = 18446744073709551615 then 0 else bnd t
/-- fields in a row of memory. -/
def Sf (w : World) (q : Option Addr) (k : Int) (l : List Int) : Prop := ∀ i (h : i < l.length), ∃ b o, q = some ⟨b, o, none⟩ ∧ w.cell? ⟨b, o + i * 4, none⟩ = some (.int .i64 l[i]) ∧ w.cell? ⟨b, o + i * 4 + 1, none⟩ = some (.int .u64 (most l[i])) ∧ w.cell? ⟨b, o + i * 4 + 2, none⟩ = some (.int .i64 (plW k l[i])) ∧ w.cell? ⟨b, o + i * 4 + 3, none⟩ = some (.int .i64 (plB l[i]))
theorem Sf.on {w w' : World} {q : Option Addr} {k : Int} {l : List Int} (h : Sf w q k l) (hb : Below w.heap.size w w') : Sf w' q k l := fun i hi => by
  obtain ⟨b, o, e, h0, h1, h2, h3⟩ := h i hi
  exact ⟨b, o, e, (hb.cell (cell_lt h0)).trans h0, (hb.cell (cell_lt h1)).trans h1, (hb.cell (cell_lt h2)).trans h2, (hb.cell (cell_lt h3)).trans h3⟩
def fc (k t : Int) : List Value := [.int .i64 t, .int .u64 (most t), .int .i64 (plW k t), .int .i64 (plB t)]
theorem fc_at (k : Int) : ∀ (l : List Int) (i : Nat) (h : i < l.length) (j : Nat), j < 4 → (l.flatMap (fc k))[i * 4 + j]? = (fc k l[i])[j]?
  | x :: l, 0, h, j, hj => by
    rw [List.flatMap_cons, List.getElem?_append_left (by simp [fc]; omega)]
    simp
  | x :: l, i + 1, h, j, hj => by
    rw [List.flatMap_cons, List.getElem?_append_right (by simp [fc]; omega)]
    have e : (i + 1) * 4 + j - (fc k x).length = i * 4 + j := by simp [fc]; omega
    rw [e, fc_at k l i (by simpa using h) j hj]
    simp
theorem sf_new (k : Int) (w : World) (g : Nat) (cs : Array Value) (l : List Int) (hg : w.heap.size = g) (h : cs.toList = l.flatMap (fc k)) : Sf (w.alloc (.cells cs 63)) (some ⟨g, 0, none⟩) k l := by
  subst hg
  intro i hi
  have c : ∀ j, j < 4 → (w.alloc (.cells cs 63)).cell? ⟨w.heap.size, 0 + i * 4 + j, none⟩ = (fc k l[i])[j]? := by
    intro j hj
    rw [Nat.zero_add, World.cell?_alloc_new, ← Array.getElem?_toList, h]
    exact fc_at k l i hi j hj
  exact ⟨w.heap.size, 0, rfl, c 0 (by omega), c 1 (by omega), c 2 (by omega), c 3 (by omega)⟩
def FldP (k : Int) (w : World) (e : Ending) (w' : World) : Prop := ∃ q cap, e = .returned (.slice q (tagsL k).length cap) ∧ Sf w' q k (tagsL k) ∧ Below w.heap.size w w'
set_option maxHeartbeats 1000000 in
set_option maxRecDepth 100000 in
theorem fields_any (k : Int) (h1 : 1 ≤ k) (h4 : k ≤ 4) (w : World) : Calls Try.prog 19 #[.int .i64 k] w fun e w' => FldP k w e w' := by
  obtain rfl | rfl | rfl | rfl : k = 1 ∨ k = 2 ∨ k = 3 ∨ k = 4 := by omega
  · go_enter Try.func19, Try.ntmps19
    go_wp2
    go_ret
    exact ⟨some ⟨w.heap.size + 1 + 1 + 1 + 1 + 1, 0, none⟩, 7, rfl, sf_new 1 _ _ _ (tagsL 1) (by simp) rfl, btr (btr (btr (btr (btr (ball _ _) (ball _ _)) (ball _ _)) (ball _ _)) (ball _ _)) (ball _ _)⟩
  · go_enter Try.func19, Try.ntmps19
    go_wp2
    go_ret
    exact ⟨some ⟨w.heap.size + 1 + 1 + 1 + 1 + 1, 0, none⟩, 1, rfl, sf_new 2 _ _ _ (tagsL 2) (by simp) rfl, btr (btr (btr (btr (btr (ball _ _) (ball _ _)) (ball _ _)) (ball _ _)) (ball _ _)) (ball _ _)⟩
  · go_enter Try.func19, Try.ntmps19
    go_wp2
    go_ret
    exact ⟨some ⟨w.heap.size + 1 + 1 + 1 + 1 + 1, 0, none⟩, 5, rfl, sf_new 3 _ _ _ (tagsL 3) (by simp) rfl, btr (btr (btr (btr (btr (ball _ _) (ball _ _)) (ball _ _)) (ball _ _)) (ball _ _)) (ball _ _)⟩
  · go_enter Try.func19, Try.ntmps19
    go_wp2
    go_ret
    exact ⟨some ⟨w.heap.size + 1 + 1 + 1 + 1 + 1, 0, none⟩, 1, rfl, sf_new 4 _ _ _ (tagsL 4) (by simp) rfl, btr (btr (btr (btr (btr (ball _ _) (ball _ _)) (ball _ _)) (ball _ _)) (ball _ _)) (ball _ _)⟩

/-- words in a row of memory. -/
def Su (w : World) (q : Option Addr) (l : List Int) : Prop := ∀ i (h : i < l.length), ∃ b o, q = some ⟨b, o, none⟩ ∧ w.cell? ⟨b, o + i, none⟩ = some (.int .u64 l[i])
theorem Su.on {w w' : World} {q : Option Addr} {l : List Int} (h : Su w q l) (hb : Below w.heap.size w w') : Su w' q l := fun i hi => by
  obtain ⟨b, o, e, hc⟩ := h i hi
  exact ⟨b, o, e, (hb.cell (cell_lt hc)).trans hc⟩
def lstep (k : Int) (f : Int → Int) (l : List Int) (t : Int) : List Int := l.set (plW k t).toNat (u64 (l.getD (plW k t).toNat 0 + shW (f t) (plB t)))
def laW (k : Int) (f : Int → Int) (L : List Int) : List Int := L.foldl (lstep k f) zeros
theorem laW_len (k : Int) (f : Int → Int) : ∀ L, (laW k f L).length = 7 := by
  have h : ∀ (L l : List Int), (L.foldl (lstep k f) l).length = l.length := by
    intro L
    induction L with
    | nil => intro l; rfl
    | cons x L ih => intro l; rw [List.foldl_cons, ih]; simp [lstep]
  intro L
  exact h L zeros
theorem laW_step (k : Int) (f : Int → Int) (L : List Int) (j : Nat) (h : j < L.length) : laW k f (L.take (j + 1)) = lstep k f (laW k f (L.take j)) L[j] := by
  unfold laW
  rw [List.take_succ_eq_append_getElem h, List.foldl_append]
  rfl
structure LaR (w : World) (k : Int) (q p : Option Addr) (L V : List Int) (l : List Int) (wr : World) : Prop where
  r1 : wr.heap[w.heap.size]? = some (.cells z30 30 (0, 0))
  r2 : wr.heap[w.heap.size + 1]? = some (.cells (frV k l) 30 (0, 0))
  s : Sf wr q k L
  u : Su wr p V
  bel : Below w.heap.size w wr
theorem LaR.step {w wr : World} {k : Int} {q p : Option Addr} {L V l : List Int} (h : LaR w k q p L V l wr) (W : Nat) (y : Int) (hq : ∀ b o, q = some ⟨b, o, none⟩ → b < w.heap.size) (hp : ∀ b o, p = some ⟨b, o, none⟩ → b < w.heap.size) :
    LaR w k q p L V (l.set W y) ((wr.setCell ⟨w.heap.size + 1, 1 + W, none⟩ (.int .u64 y)).drew) := by
  refine ⟨row_set h.r1 (by simp) _, ?_, ?_, ?_, (h.bel.setCell (by show _ ≤ _; simp) _).drew⟩
  · show (wr.setCell ⟨w.heap.size + 1, 1 + W, none⟩ (.int .u64 y)).heap[w.heap.size + 1]? = _
    rw [heap_setCell_same wr _ (1 + W) _ 30 _ h.r2]
    unfold frV uv
    rw [List.setIfInBounds_toArray, Nat.add_comm 1 W, List.set_cons_succ, List.map_set]
  · intro i hi
    obtain ⟨b, o, e, h0, h1, h2, h3⟩ := h.s i hi
    have hb := hq b o e
    have hs : ∀ j v, wr.cell? ⟨b, j, none⟩ = some v → (wr.setCell ⟨w.heap.size + 1, 1 + W, none⟩ (.int .u64 y)).drew.cell? ⟨b, j, none⟩ = some v := by
      intro j v hv
      show (wr.setCell ⟨w.heap.size + 1, 1 + W, none⟩ (.int .u64 y)).cell? ⟨b, j, none⟩ = some v
      rw [World.cell?_setCell_other _ _ _ _ (by simp only [ne_eq, Addr.mk.injEq, not_and]; omega)]
      exact hv
    exact ⟨b, o, e, hs _ _ h0, hs _ _ h1, hs _ _ h2, hs _ _ h3⟩
  · intro i hi
    obtain ⟨b, o, e, h0⟩ := h.u i hi
    have hb := hp b o e
    refine ⟨b, o, e, ?_⟩
    show (wr.setCell ⟨w.heap.size + 1, 1 + W, none⟩ (.int .u64 y)).cell? ⟨b, o + i, none⟩ = _
    rw [World.cell?_setCell_other _ _ _ _ (by simp only [ne_eq, Addr.mk.injEq, not_and]; omega)]
    exact h0
set_option maxHeartbeats 2000000 in
set_option maxRecDepth 100000 in
theorem laid_any (k : Int) (h1 : 1 ≤ k) (h4 : k < 256) (f : Int → Int) (q p : Option Addr) (cq cp : Nat) (w : World) (hS : Sf w q k (tagsL k)) (hU : Su w p ((tagsL k).map f)) :
    Calls Try.prog 17 #[.int .i64 k, .slice q (tagsL k).length cq, .slice p (tagsL k).length cp] w fun e w' => e = .returned (.agg (frV k (laW k f (tagsL k)))) ∧ Below w.heap.size w w' := by
  have hlen := tags_len k
  have HPL := hid (place_in k)
  have hcv : k % 256 = k := by omega
  have PK := hid (show LaR w k q p (tagsL k) ((tagsL k).map f) (laW k f ((tagsL k).take 0)) ((w.alloc (.cells z30 30)).alloc (.cells (frV k zeros) 30)) from ⟨row_on (heap_alloc_new _ _) (ball _ _), heap2 _ _ _, (hS.on (ball _ _)).on (ball _ _), (hU.on (ball _ _)).on (ball _ _), btr (ball _ _) (ball _ _)⟩)
  have HQ := hid (show 0 < (tagsL k).length → ∀ b o, q = some ⟨b, o, none⟩ → b < w.heap.size from fun h0 b o e => by
    obtain ⟨b', o', e', hc, _⟩ := hS 0 h0
    rw [e'] at e
    simp at e
    rw [← e.1]
    exact cell_lt hc)
  have HQP := hid (show 0 < (tagsL k).length → ∀ b o, p = some ⟨b, o, none⟩ → b < w.heap.size from fun h0 b o e => by
    obtain ⟨b', o', e', hc⟩ := hU 0 (by simpa using h0)
    rw [e'] at e
    simp at e
    rw [← e.1]
    exact cell_lt hc)
  clear hS hU
  obtain ⟨L, hL⟩ : ∃ l, tagsL k = l := ⟨_, rfl⟩
  rw [hL] at PK HPL hlen HQ HQP
  rw [hL]
  have HLL := hid hL
  clear hL
  go_enter Try.func17, Try.ntmps17
  go_wp2
  go_loopw [8] (fun iv wr => ∃ j : Nat, j ≤ L.length ∧ iv = .int .i64 j ∧ LaR w k q p L (L.map f) (laW k f (L.take j)) wr) (fun iv _ => L.length - (intOf iv).toNat)
  case atStart => exact ⟨0, Nat.zero_le _, rfl, PK.out⟩
  case round =>
    obtain ⟨j, hj, rfl, hpk⟩ := hrel
    have PJ := hid hpk
    clear hpk PK
    by_cases hjl : j < L.length
    · have hjl' : (j : Int) < (L.length : Int) := by omega
      have hj0 : (0 : Int) ≤ (j : Int) := by omega
      obtain ⟨qb, qo, rfl, f0, f1, f2, f3⟩ := PJ.out.s j hjl
      obtain ⟨pb, po, rfl, hv⟩ := PJ.out.u j (by simpa using hjl)
      rw [List.getElem_map] at hv
      have HST := hid (laW_step k f L j hjl)
      obtain ⟨p1, p2, p3, p4⟩ := HPL.out L[j] (List.getElem_mem hjl)
      obtain ⟨t, ht⟩ : ∃ t, L[j] = t := ⟨_, rfl⟩
      rw [ht] at f0 f1 f2 f3 hv HST p1 p2 p3 p4
      clear ht f0 f1
      have hll := laW_len k f (L.take j)
      unfold lstep at HST
      obtain ⟨W, hW⟩ : ∃ x : Nat, plW k t = (x : Int) := ⟨(plW k t).toNat, by omega⟩
      obtain ⟨S, hS⟩ : ∃ x : Nat, plB t = (x : Int) := ⟨(plB t).toNat, by omega⟩
      rw [hW, hS] at HST
      rw [hW] at p2 f2
      rw [hS] at p4 f3
      obtain ⟨l, hl⟩ : ∃ l, laW k f (L.take j) = l := ⟨_, rfl⟩
      have hfr := PJ.out.r2
      rw [hl] at hfr HST hll
      have hx : W < l.length := by omega
      have hword : wr.cell? ⟨w.heap.size + 1, 1 + W, none⟩ = some (.int .u64 (l.getD W 0)) := by
        rw [row_cell hfr (1 + W)]
        simp [frV, uv, Nat.add_comm 1 W, hx]
      have hfz : wr.frozen? ⟨w.heap.size + 1, 1 + W, none⟩ = false := frozen_of_row wr _ _ _ 30 hfr
      obtain ⟨x, hx2⟩ : ∃ x, l.getD W 0 = x := ⟨_, rfl⟩
      rw [hx2] at hword
      have i0 : (0 : Int) ≤ (W : Int) := by omega
      have i1 : (W : Int) < 7 := by omega
      have s0 : (0 : Int) ≤ (S : Int) := by omega
      have s1 : (S : Int) < 64 := by omega
      clear p1 p2 p3 p4 hW hS hll hx
      go_wp2
      go_region
      have PN := hid (show LaR w k (some ⟨qb, qo, none⟩) (some ⟨pb, po, none⟩) L (L.map f) (laW k f (L.take (j + 1))) ((wr.setCell ⟨w.heap.size + 1, 1 + W, none⟩ (.int .u64 (u64 (x + shW (f t) S)))).drew) from by
        have h1 := PJ.out
        rw [hl] at h1
        rw [HST.out]
        have e1 : ((W : Int)).toNat = W := by omega
        rw [e1, hx2]
        exact h1.step W _ (HQ.out (by omega)) (HQP.out (by omega)))
      go_wp2
      go_roundw
      case rel => exact ⟨j + 1, by omega, by go_num, PN.out⟩
      case measure => simp [intOf]; omega
    · have hje : j = L.length := by omega
      subst hje
      have hp := PJ.out
      rw [List.take_length (l := L)] at hp
      have HP := hid hp
      have HFI := hid (info_fr k (laW k f L) (laW_len k f L))
      have HON := hid (one_fr k (laW k f L))
      have HSZ := hid (size_fr k (laW k f L) (laW_len k f L))
      obtain ⟨F, hF⟩ : ∃ F, frV k (laW k f L) = F := ⟨_, rfl⟩
      have HZ := hp.r1
      have HZ2 := hp.r2
      rw [hF] at HZ2 HFI HON HSZ
      have HFF := hid hF
      clear hp hF PJ
      go_wp2_with (first
        | (refine wpList_load_row (by rfl) 30 (.tmp 7) (by rfl) (w.heap.size + 1) (by rfl) 30 F (0, 0) _ HZ2 Try.underlying30 rfl HFI.out ?_)
        | (refine wpList_st (by rfl) 30 (.tmp 6) (.tmp 44) (by rfl) w.heap.size F (by rfl) (by rfl) 30 z30 HZ HFI.out HSZ.out HON.out ?_; intro w3 hst; have HS3 := hid hst; clear hst; refine Hid.out ?_))
      refine hid ?_
      go_wp2
      exact bodyPost_ret (results_cell_row (fn := Try.f17) Try.results17 _ _ w.heap.size 30 F (0, 0) _ (by rfl) HS3.out.row Try.underlying30 rfl HFI.out) rfl ⟨by rw [HFF.out], HS3.out.bel _ _ HP.out.bel (by omega)⟩
end Go.Proofs.Ytnhipamajelalaa
