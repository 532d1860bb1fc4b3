/-
  frame.
-/
import Derived.Test.YtnhipamajelalaaMgC
namespace Go.Proofs.Ytnhipamajelalaa
open Go.RowKit Go.Maps Go.Deep Go.Lib
set_option linter.unusedVariables false
set_option linter.unusedSimpArgs false

theorem place_in (k : Int) : ∀ t ∈ tagsL k, 0 ≤ plW k t ∧ plW k t < 7 ∧ 0 ≤ plB t ∧ plB t < 64 := by
  unfold tagsL
  intro t ht
  repeat' split at ht
  all_goals (try subst k)
  all_goals simp at ht
  all_goals (try (rcases ht with rfl | rfl | rfl | rfl | rfl | rfl | rfl | rfl))
  all_goals (try (rcases ht with rfl | rfl | rfl | rfl | rfl | rfl | rfl))
  all_goals (try (rcases ht with rfl | rfl | rfl | rfl | rfl | rfl))
  all_goals (try (rcases ht with rfl | rfl | rfl | rfl | rfl))
  all_goals (try (rcases ht with rfl | rfl | rfl | rfl))
  all_goals (try subst t)
  all_goals (simp [plW, plU, plB])
def uv (l : List Int) : List Value := l.map fun x => .int .u64 x
/-- a frame, as cells. -/
def frV (k : Int) (l : List Int) : Array Value := (.int .u8 k :: uv l).toArray
def zeros : List Int := [0, 0, 0, 0, 0, 0, 0]
def z30 : Array Value := #[.int .u8 0, .int .u64 0, .int .u64 0, .int .u64 0, .int .u64 0, .int .u64 0, .int .u64 0, .int .u64 0]
def orW (a b : Int) : Int := bits .or .u64 a b
def shW (a b : Int) : Int := IntKind.u64.wrap (a * 2 ^ b.toNat)
def fstep (k : Int) (f : Int → Int) (l : List Int) (t : Int) : List Int := l.set (plW k t).toNat (orW (l.getD (plW k t).toNat 0) (shW (f t) (plB t)))
def frW (k : Int) (f : Int → Int) (L : List Int) : List Int := L.foldl (fstep k f) zeros
theorem frW_len (k : Int) (f : Int → Int) : ∀ L, (frW k f L).length = 7 := by
  have h : ∀ (L l : List Int), (L.foldl (fstep k f) l).length = l.length := by
    intro L
    induction L with
    | nil => intro l; rfl
    | cons x L ih => intro l; rw [List.foldl_cons, ih]; simp [fstep]
  intro L
  exact h L zeros
theorem frW_step (k : Int) (f : Int → Int) (L : List Int) (j : Nat) (h : j < L.length) : frW k f (L.take (j + 1)) = fstep k f (frW k f (L.take j)) L[j] := by
  unfold frW
  rw [List.take_succ_eq_append_getElem h, List.foldl_append]
  rfl
structure FrR (w : World) (k : Int) (b n : Nat) (f : Int → Int) (q : Option Addr) (L : List Int) (l : List Int) (wr : World) : Prop where
  r0 : wr.heap[w.heap.size]? = some (.cells #[.int .u8 k, .map (some b)] 46 (0, 0))
  r1 : wr.heap[w.heap.size + 1]? = some (.cells z30 30 (0, 0))
  r2 : wr.heap[w.heap.size + 1 + 1]? = some (.cells (frV k l) 30 (0, 0))
  a : Fm wr b n f
  s : Sn wr q L
  bel : Below w.heap.size w wr
theorem row_set {w : World} {g : Nat} {o : Obj} (h : w.heap[g]? = some o) {a : Addr} (hne : g ≠ a.block) (u : Value) : (w.setCell a u).heap[g]? = some o := by
  rw [heap_setCell_other _ _ _ _ hne]
  exact h
theorem FrR.step {w wr : World} {k : Int} {b n : Nat} {f : Int → Int} {qb qo : Nat} {L l : List Int} (h : FrR w k b n f (some ⟨qb, qo, none⟩) L l wr) (W : Nat) (y : Int) (hbl : b < w.heap.size) :
    FrR w k b n f (some ⟨qb, qo, none⟩) L (l.set W y) ((wr.setCell ⟨w.heap.size + 1 + 1, 1 + W, none⟩ (.int .u64 y)).drew) := by
  have hs : Sn (wr.setCell ⟨w.heap.size + 1 + 1, 1 + W, none⟩ (.int .u64 y)) (some ⟨qb, qo, none⟩) L := fun j hj => by
    obtain ⟨b', o', e, hc⟩ := h.s j hj
    refine ⟨b', o', e, ?_⟩
    by_cases hb : b' = w.heap.size + 1 + 1
    · subst hb
      rw [row_cell h.r2] at hc
      exfalso
      have h2 : ∀ i : Nat, (frV k l)[i]? ≠ some (.int .i64 L[j]) := by
        intro i
        unfold frV uv
        cases i with
        | zero => simp
        | succ i => simp
      exact h2 _ hc
    · rw [World.cell?_setCell_other _ _ _ _ (by simp [hb])]
      exact hc
  refine ⟨row_set h.r0 (by show _ ≠ _; simp; omega) _, row_set h.r1 (by simp) _, ?_, h.a.setCell (by show _ ≠ _; simp; omega) _, hs, (h.bel.setCell (by show _ ≤ _; simp; omega) _).drew⟩
  show (wr.setCell ⟨w.heap.size + 1 + 1, 1 + W, none⟩ (.int .u64 y)).heap[w.heap.size + 1 + 1]? = _
  rw [heap_setCell_same wr _ (1 + W) _ 30 _ h.r2]
  unfold frV uv
  rw [List.setIfInBounds_toArray, Nat.add_comm 1 W, List.set_cons_succ, List.map_set]
theorem size_fr (k : Int) (l : List Int) (h : l.length = 7) : z30.size = (frV k l).size := by simp [frV, uv, h, z30]
theorem info_fr (k : Int) (l : List Int) (h : l.length = 7) : (Try.prog.info? 30).map (·.size) = some (frV k l).size := by rw [info30, ← size_fr k l h]; rfl
theorem one_fr (k : Int) (l : List Int) : (frV k l).all (·.oneCell') = true := by
  simp [frV, uv, Value.oneCell']
set_option maxHeartbeats 2000000 in
set_option maxRecDepth 100000 in
theorem frame_any (k : Int) (b n : Nat) (f : Int → Int) (w : World) (hF : Fm w b n f) :
    Calls Try.prog 15 #[.agg #[.int .u8 k, .map (some b)]] w fun e w' => e = .returned (.agg (frV k (frW k f (tagsL k)))) ∧ Below w.heap.size w w' := by
  have HF := hid hF
  have hbl := hF.lt
  have TA := hid (fun w => tags_any k w)
  have hlen := tags_len k
  have HIN := hid (tags_in k)
  have HPL := hid (place_in k)
  have PL := hid (fun t w => place_any k t w)
  clear hF
  go_enter Try.func15, Try.ntmps15
  go_wp2_with (first | (go_at_call 33; refine (TA.out _).mono ?_; rintro e w2 ⟨q, cap, rfl, hS, hb⟩; have HS := hid hS; have HB2 := hid hb; clear hS hb; refine Hid.out ?_))
  refine hid ?_
  obtain ⟨r0, r1, r2, hB⟩ := three _ _ _ _ HB2.out
  have PK := hid (show FrR w k b n f q (tagsL k) (frW k f ((tagsL k).take 0)) w2 from ⟨r0, r1, r2, HF.out.on hB, HS.out, hB⟩)
  clear r0 r1 r2 HS HB2 TA HF hB
  obtain ⟨L, hL⟩ : ∃ l, tagsL k = l := ⟨_, rfl⟩
  rw [hL] at PK HIN HPL hlen
  rw [hL]
  have HLL := hid hL
  clear hL
  go_wp2
  go_loopw [15] (fun iv wr => ∃ j : Nat, j ≤ L.length ∧ iv = .int .i64 j ∧ FrR w k b n f q L (frW k f (L.take j)) wr) (fun iv _ => L.length - (intOf iv).toNat)
  case atStart => exact ⟨0, Nat.zero_le _, rfl, PK.out⟩
  case round =>
    obtain ⟨j, hj, rfl, hpk⟩ := hrel
    have PJ := hid hpk
    clear hpk PK
    by_cases hjl : j < L.length
    · have hjl' : (j : Int) < (L.length : Int) := by omega
      have hj0 : (0 : Int) ≤ (j : Int) := by omega
      obtain ⟨qb, qo, rfl, hcell⟩ := PJ.out.s j hjl
      have HST := hid (frW_step k f L j hjl)
      have hti := HIN.out L[j] (List.getElem_mem hjl)
      obtain ⟨p1, p2, p3, p4⟩ := HPL.out L[j] (List.getElem_mem hjl)
      obtain ⟨t, ht⟩ : ∃ t, L[j] = t := ⟨_, rfl⟩
      rw [ht] at hcell HST hti p1 p2 p3 p4
      clear ht
      have hwt := wf_tag hti
      have hlk : ∀ m, (Instr.lookup 44 (.map (some b)) (.int .i64 t) false).run Try.prog (wr.drewN m) = .ok (.int .u64 (f t)) (wr.drewN m) := fun m => (show Fm (wr.drewN m) b n f from PJ.out.a).look t hwt
      have hlk0 : (Instr.lookup 44 (.map (some b)) (.int .i64 t) false).run Try.prog wr = .ok (.int .u64 (f t)) wr := PJ.out.a.look t hwt
      have hlk1 : (Instr.lookup 44 (.map (some b)) (.int .i64 t) false).run Try.prog wr.drew = .ok (.int .u64 (f t)) wr.drew := (show Fm wr.drew b n f from PJ.out.a).look t hwt
      have P := hid (fun w => PL.out t w)
      have hll := frW_len k f (L.take j)
      unfold fstep at HST
      obtain ⟨W, hW⟩ : ∃ x : Nat, plW k t = (x : Int) := ⟨(plW k t).toNat, by omega⟩
      obtain ⟨S, hS⟩ : ∃ x : Nat, plB t = (x : Int) := ⟨(plB t).toNat, by omega⟩
      rw [hW, hS] at P HST
      rw [hW] at p2
      rw [hS] at p4
      have hk0 : wr.cell? ⟨w.heap.size, 0, none⟩ = some (.int .u8 k) := row_cell PJ.out.r0 0
      have hk1 : wr.cell? ⟨w.heap.size, 1, none⟩ = some (.map (some b)) := row_cell PJ.out.r0 1
      obtain ⟨l, hl⟩ : ∃ l, frW k f (L.take j) = l := ⟨_, rfl⟩
      have hfr := PJ.out.r2
      rw [hl] at hfr HST hll
      have hx : W < l.length := by omega
      have hword : wr.cell? ⟨w.heap.size + 1 + 1, 1 + W, none⟩ = some (.int .u64 (l.getD W 0)) := by
        rw [row_cell hfr (1 + W)]
        simp [frV, uv, Nat.add_comm 1 W, hx]
      have hfz : wr.frozen? ⟨w.heap.size + 1 + 1, 1 + W, none⟩ = false := frozen_of_row wr _ _ _ 30 hfr
      obtain ⟨x, hx2⟩ : ∃ x, l.getD W 0 = x := ⟨_, rfl⟩
      rw [hx2] at hword
      have i0 : (0 : Int) ≤ (W : Int) := by omega
      have i1 : (W : Int) < 7 := by omega
      have s0 : (0 : Int) ≤ (S : Int) := by omega
      have s1 : (S : Int) < 64 := by omega
      clear p1 p2 p3 p4 hW hS hti hll hx
      go_wp2_with (first | (go_at_call 34; refine (P.out _).mono ?_; rintro e wq ⟨rfl, rfl⟩; refine Hid.out ?_))
      refine hid ?_
      go_wp2
      go_region
      have PN := hid (show FrR w k b n f (some ⟨qb, qo, none⟩) L (frW k f (L.take (j + 1))) ((wq.setCell ⟨w.heap.size + 1 + 1, 1 + W, none⟩ (.int .u64 (orW x (shW (f t) S)))).drew) from by
        have h1 := PJ.out
        rw [hl] at h1
        rw [HST.out]
        have e1 : ((W : Int)).toNat = W := by omega
        rw [e1, hx2]
        exact h1.step W _ hbl)
      go_wp2
      go_roundw
      case rel => exact ⟨j + 1, by omega, by go_num, PN.out⟩
      case measure => simp [intOf]; omega
    · have hje : j = L.length := by omega
      subst hje
      have hp := PJ.out
      rw [List.take_length (l := L)] at hp
      have HP := hid hp
      have HFI := hid (info_fr k (frW k f L) (frW_len k f L))
      have HON := hid (one_fr k (frW k f L))
      have HSZ := hid (size_fr k (frW k f L) (frW_len k f L))
      obtain ⟨F, hF⟩ : ∃ F, frV k (frW k f L) = F := ⟨_, rfl⟩
      have HZ := hp.r1
      have HZ2 := hp.r2
      rw [hF] at HZ2 HFI HON HSZ
      have HFF := hid hF
      clear hp hF PJ
      go_wp2_with (first
        | (refine wpList_load_row (by rfl) 30 (.tmp 3) (by rfl) (w.heap.size + 1 + 1) (by rfl) 30 F (0, 0) _ HZ2 Try.underlying30 rfl HFI.out ?_)
        | (refine wpList_st (by rfl) 30 (.tmp 2) (.tmp 40) (by rfl) (w.heap.size + 1) F (by rfl) (by rfl) 30 z30 HZ HFI.out HSZ.out HON.out ?_; intro w3 hst; have HS3 := hid hst; clear hst; refine Hid.out ?_))
      refine hid ?_
      go_wp2
      exact bodyPost_ret (results_cell_row (fn := Try.f15) Try.results15 _ _ (w.heap.size + 1) 30 F (0, 0) _ (by rfl) HS3.out.row Try.underlying30 rfl HFI.out) rfl ⟨by rw [HLL.out, HFF.out], HS3.out.bel _ _ HP.out.bel (by omega)⟩
end Go.Proofs.Ytnhipamajelalaa
