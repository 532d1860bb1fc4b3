/-
  pick.
-/
import Derived.Test.YtnhipamajelalaaMgB
namespace Go.Proofs.Ytnhipamajelalaa
open Go.RowKit Go.Maps Go.Deep Go.Lib
set_option linter.unusedVariables false
set_option linter.unusedSimpArgs false

theorem tags_in (k : Int) : ∀ t ∈ tagsL k, 0 < t ∧ t < 10000 := by
  unfold tagsL
  intro t ht
  repeat' split at ht
  all_goals simp at ht
  all_goals omega
theorem tags_len (k : Int) : (tagsL k).length ≤ 8 := by
  unfold tagsL
  repeat' split
  all_goals simp
theorem wf_tag {t : Int} (h : 0 < t ∧ t < 10000) : (Lit.int .i64 t).wf = true := wf_i (by omega) (by omega)
/-- the fields that were taken. -/
def only (l : List Int) (f : Int → Int) : Int → Int := fun t => if t ∈ l then f t else 0
theorem only_step (l : List Int) (f : Int → Int) (j : Nat) (h : j < l.length) : only (l.take (j + 1)) f = upd (only (l.take j) f) l[j] (f l[j]) := by
  have hm : ∀ s, s ∈ l.take (j + 1) ↔ (s ∈ l.take j ∨ s = l[j]) := by
    intro s
    rw [List.take_succ_eq_append_getElem h, List.mem_append, List.mem_singleton]
  funext s
  unfold only upd
  by_cases e : s = l[j]
  · rw [if_pos ((hm s).2 (Or.inr e)), if_pos e, e]
  · rw [if_neg e]
    by_cases h2 : s ∈ l.take j
    · simp only [if_pos ((hm s).2 (Or.inl h2)), if_pos h2]
    · simp only [if_neg (fun h => (hm s).1 h |>.elim h2 e), if_neg h2]
theorem only_nil (f : Int → Int) : only [] f = fun _ => 0 := by
  funext s
  simp [only]
theorem Fm.zero {w : World} {b n : Nat} {f g : Int → Int} (h : Fm w b n f) (e : f = g) : Fm w b n g := e ▸ h
/-- is each field within its bound? -/
def inB (l : List Int) (f : Int → Int) : Bool := l.all fun t => decide (f t ≤ bnd t)
theorem res46 (fn : Func) (p u : Tmp) (h : fn.results = #[.cell p 46, .tmp u]) (tmps : Array Value) (w : World) (g : Nat) (cs : Array Value) (eu : Value)
    (hp : tmps.getD p undef = .pointer (some ⟨g, 0, none⟩)) (hu : tmps.getD u undef = eu) (hg : w.heap[g]? = some (.cells cs 46 (0, 0))) (hi : (Try.prog.info? 46).map (·.size) = some cs.size) :
    (results fn tmps).run Try.prog w = .ok (.tuple #[.agg cs, eu]) w := by
  have hp' : tmps[p]?.getD undef = .pointer (some ⟨g, 0, none⟩) := by simpa using hp
  have hu' : tmps[u]?.getD undef = eu := by simpa using hu
  simp [results, h, hp', hu', asAddr, run_loadVar_row w g 46 46 cs (0, 0) _ hg Try.underlying46 rfl hi]
/-- what pick says. -/
def PickP (k : Int) (f : Int → Int) (w : World) (e : Ending) (w' : World) : Prop :=
  Below w.heap.size w w' ∧ ((inB (tagsL k) f = false ∧ e = .returned (.tuple #[.agg #[.int .u8 0, .map none], .bool false])) ∨
    (inB (tagsL k) f = true ∧ ∃ b n, e = .returned (.tuple #[.agg #[.int .u8 k, .map (some b)], .bool true]) ∧ n ≤ 8 ∧ w.heap.size ≤ b ∧ Fm w' b n (only (tagsL k) f)))

theorem three (w : World) (o1 o2 o3 : Obj) {w2 : World} (hb : Below (((w.alloc o1).alloc o2).alloc o3).heap.size (((w.alloc o1).alloc o2).alloc o3) w2) :
    w2.heap[w.heap.size]? = some o1 ∧ w2.heap[w.heap.size + 1]? = some o2 ∧ w2.heap[w.heap.size + 1 + 1]? = some o3 ∧ Below w.heap.size w w2 := by
  have h3 : (((w.alloc o1).alloc o2).alloc o3).heap[w.heap.size + 1 + 1]? = some o3 := by
    have := heap2 (w.alloc o1) o2 o3
    rw [alloc_size] at this
    exact this
  have h2 : (((w.alloc o1).alloc o2).alloc o3).heap[w.heap.size + 1]? = some o2 := row_on (heap2 w o1 o2) (ball _ _)
  have h1 : (((w.alloc o1).alloc o2).alloc o3).heap[w.heap.size]? = some o1 := row_on (row_on (heap_alloc_new w o1) (ball _ _)) (ball _ _)
  exact ⟨row_on h1 hb, row_on h2 hb, row_on h3 hb, btr (btr (btr (ball _ _) (ball _ _)) (ball _ _)) hb⟩
theorem below_drewN {B : Nat} {a w : World} (h : Below B a w) (n : Nat) : Below B a (w.drewN n) := ⟨h.os, h.tape, h.output, h.size, h.block⟩
theorem Sn.grown {w w' : World} {q : Option Addr} {l : List Int} {b n : Nat} {f : Int → Int} (h : Sn w q l) (hF : Fm w b n f) (hg : w.grownBy w' (some b)) : Sn w' q l := fun i hi => by
  obtain ⟨b', o, e, hc⟩ := h i hi
  refine ⟨b', o, e, ?_⟩
  have hne : b' ≠ b := by
    rintro rfl
    obtain ⟨D, ⟨es, cl, hm, _⟩, _⟩ := hF
    simp [World.cell?, hm] at hc
  have hb := hg.block b' (cell_lt hc) (by simpa using hne)
  unfold World.cell? at hc ⊢
  simp only [hb]
  exact hc
theorem row_grown {w w' : World} {g m : Nat} {o : Obj} (h : w.heap[g]? = some o) (hg : w.grownBy w' (some m)) (hne : g ≠ m) : w'.heap[g]? = some o := by
  have hl : g < w.heap.size := by
    rcases Nat.lt_or_ge g w.heap.size with h' | h'
    · exact h'
    · simp [Array.getElem?_eq_none h'] at h
  rw [hg.block g hl (by simpa using hne)]
  exact h
structure PkR (w : World) (k : Int) (b n : Nat) (f : Int → Int) (q : Option Addr) (L : List Int) (j : Nat) (wr : World) : Prop where
  r0 : wr.heap[w.heap.size]? = some (.cells #[.int .u8 0, .map none] 46 (0, 0))
  m : Fm wr (w.heap.size + 1) j (only (L.take j) f)
  r2 : wr.heap[w.heap.size + 1 + 1]? = some (.cells #[.int .u8 k, .map (some (w.heap.size + 1))] 46 (0, 0))
  a : Fm wr b n f
  s : Sn wr q L
  bel : Below w.heap.size w wr
  ok : inB (L.take j) f = true
theorem PkR.step {w wr w3 : World} {k : Int} {b n : Nat} {f : Int → Int} {q : Option Addr} {L : List Int} {j m : Nat} (h : PkR w k b n f q L j wr) (hg : (wr.drewN m).grownBy w3 (some (w.heap.size + 1))) (hF : Fm w3 (w.heap.size + 1) (j + 1) (only (L.take (j + 1)) f)) (hok : inB (L.take (j + 1)) f = true) (hbl : b < w.heap.size) : PkR w k b n f q L (j + 1) w3 :=
  ⟨row_grown (w := wr.drewN m) h.r0 hg (by omega), hF, row_grown (w := wr.drewN m) h.r2 hg (by omega), Fm.grown (w := wr.drewN m) h.a hg (by simp; omega), Sn.grown (w := wr.drewN m) h.s h.m hg, (below_drewN h.bel m).grown hg h.bel.size (fun i hi => by cases hi; omega), hok⟩
set_option maxHeartbeats 2000000 in
set_option maxRecDepth 100000 in
theorem pick_any (k : Int) (b n : Nat) (f : Int → Int) (w : World) (hF : Fm w b n f) :
    Calls Try.prog 32 #[.int .u8 k, .map (some b)] w fun e w' => PickP k f w e w' := by
  have HF := hid hF
  have hbl := hF.lt
  have hmm := @run_makeMap Try.prog
  have TA := hid (fun w => tags_any k w)
  have hlen := tags_len k
  have HIN := hid (tags_in k)
  clear hF
  go_enter Try.func32, Try.ntmps32
  go_wp2_with (first | (go_at_call 33; refine (TA.out _).mono ?_; rintro e w2 ⟨q, cap, rfl, hS, hb⟩; have HS := hid hS; have HB2 := hid hb; clear hS hb; refine Hid.out ?_))
  refine hid ?_
  obtain ⟨r0, r1, r2, hB⟩ := three _ _ _ _ HB2.out
  have M0 : Fm w2 (w.heap.size + 1) 0 (only ((tagsL k).take 0) f) := by
    rw [List.take_zero, only_nil]
    exact ⟨.map [], ⟨#[], 0, r1, ⟨by simp, MapKept.stamped_empty 0, by simp⟩, Nat.le_refl _, rfl⟩, fun t => rfl⟩
  have PK := hid (show PkR w k b n f q (tagsL k) 0 w2 from ⟨r0, M0, r2, HF.out.on hB, HS.out, hB, by simp [inB]⟩)
  clear r0 r1 r2 M0 HS HB2 TA HF hB
  obtain ⟨L, hL⟩ : ∃ l, tagsL k = l := ⟨_, rfl⟩
  rw [hL] at PK HIN hlen
  have HP := hid (show ∀ e w', (Below w.heap.size w w' ∧ ((inB L f = false ∧ e = .returned (.tuple #[.agg #[.int .u8 0, .map none], .bool false])) ∨
    (inB L f = true ∧ ∃ b n, e = .returned (.tuple #[.agg #[.int .u8 k, .map (some b)], .bool true]) ∧ n ≤ 8 ∧ w.heap.size ≤ b ∧ Fm w' b n (only L f)))) → PickP k f w e w' by
    intro e w' h
    unfold PickP
    rw [hL]
    exact h)
  rw [hL]
  clear hL
  go_wp2
  go_loopw [15] (fun iv wr => ∃ j : Nat, j ≤ L.length ∧ iv = .int .i64 j ∧ PkR w k b n f q L j wr) (fun iv _ => L.length - (intOf iv).toNat)
  case atStart => exact ⟨0, Nat.zero_le _, rfl, PK.out⟩
  case round =>
    obtain ⟨j, hj, rfl, hpk⟩ := hrel
    have PJ := hid hpk
    clear hpk PK
    by_cases hjl : j < L.length
    · have hjl' : (j : Int) < (L.length : Int) := by omega
      have hj0 : (0 : Int) ≤ (j : Int) := by omega
      obtain ⟨qb, qo, rfl, hcell⟩ := PJ.out.s j hjl
      have HON := hid (only_step L f j hjl)
      have HBN := hid (show inB (L.take (j + 1)) f = (inB (L.take j) f && decide (f L[j] ≤ bnd L[j])) by unfold inB; rw [List.take_succ_eq_append_getElem hjl, List.all_append]; simp)
      have HBF := hid (show ¬ f L[j] ≤ bnd L[j] → inB L f = false by
        intro h
        unfold inB
        rw [List.all_eq_false]
        exact ⟨L[j], List.getElem_mem hjl, by simpa using h⟩)
      have hti := HIN.out L[j] (List.getElem_mem hjl)
      obtain ⟨t, ht⟩ : ∃ t, L[j] = t := ⟨_, rfl⟩
      rw [ht] at hcell HON HBN HBF hti
      clear ht
      have hwt := wf_tag hti
      have hlk : ∀ m, (Instr.lookup 44 (.map (some b)) (.int .i64 t) false).run Try.prog (wr.drewN m) = .ok (.int .u64 (f t)) (wr.drewN m) := fun m => (show Fm (wr.drewN m) b n f from PJ.out.a).look t hwt
      have hw := PJ.out.a.wd t hwt
      clear hti
      by_cases hgt : bnd t < f t
      · have HZ := PJ.out.r0
        go_wp2
        go_quiet (first | (go_at_call 36; refine Calls.quiet_of_same (bound_any _ _)))
        go_wp2_with (first | (refine wpList_st (by rfl) 46 (.tmp 4) (.tmp 25) (by rfl) w.heap.size #[.int .u8 0, .map none] (by rfl) (by rfl) 46 #[.int .u8 0, .map none] HZ info46 rfl (by simp [Value.oneCell']) ?_; intro w3 hst; have HST := hid hst; clear hst; refine Hid.out ?_))
        refine hid ?_
        go_wp2
        exact bodyPost_ret (res46 Try.f32 4 5 Try.results32 _ _ w.heap.size #[.int .u8 0, .map none] _ (by rfl) (by rfl) HST.out.row info46) rfl (HP.out _ _ ⟨HST.out.bel _ _ (below_drewN PJ.out.bel _) (Nat.le_refl _), Or.inl ⟨HBF.out (by omega), rfl⟩⟩)
      · have hle : f t ≤ bnd t := by omega
        have hm2 : wr.cell? ⟨w.heap.size + 1 + 1, 1, none⟩ = some (.map (some (w.heap.size + 1))) := row_cell PJ.out.r2 1
        go_wp2
        go_quiet (first | (go_at_call 36; refine Calls.quiet_of_same (bound_any _ _)))
        go_wp2_with (first
          | (at_lookup; refine wpList_fm_look _ rfl _ _ rfl b n f _ rfl rfl PJ.out.a hwt ?_)
          | (at_mapUpdate; refine wpList_fm_put _ rfl _ _ _ (Or.inl rfl) (w.heap.size + 1) j _ t (f t) rfl rfl rfl PJ.out.m (by omega) hwt hw ?_; intro w3 hF3 hg3; have HF3 := hid hF3; have HG3 := hid hg3; clear hF3 hg3; refine Hid.out ?_))
        have PN := hid (show PkR w k b n f (some ⟨qb, qo, none⟩) L (j + 1) w3 from PJ.out.step HG3.out (HON.out ▸ HF3.out) (by rw [HBN.out, PJ.out.ok]; simp [hle]) hbl)
        clear HF3 HG3
        refine hid ?_
        go_wp2
        go_roundw
        case rel => exact ⟨j + 1, by omega, by go_num, PN.out⟩
        case measure => simp [intOf]; omega
    · have hje : j = L.length := by omega
      subst hje
      have HL := hid (List.take_length (l := L))
      have hok := PJ.out.ok
      have hM := PJ.out.m
      rw [HL.out] at hok hM
      have HO := hid hok
      have HM := hid hM
      clear hok hM
      have HZ := PJ.out.r0
      have HZ2 := PJ.out.r2
      go_wp2_with (first
        | (refine wpList_load_row (by rfl) 46 (.tmp 6) (by rfl) (w.heap.size + 1 + 1) (by rfl) 46 #[.int .u8 k, .map (some (w.heap.size + 1))] (0, 0) _ HZ2 Try.underlying46 rfl info46 ?_)
        | (refine wpList_st (by rfl) 46 (.tmp 4) (.tmp 33) (by rfl) w.heap.size #[.int .u8 k, .map (some (w.heap.size + 1))] (by rfl) (by rfl) 46 #[.int .u8 0, .map none] HZ info46 rfl (by simp [Value.oneCell']) ?_; intro w3 hst; have HST := hid hst; clear hst; refine Hid.out ?_))
      refine hid ?_
      go_wp2
      exact bodyPost_ret (res46 Try.f32 4 5 Try.results32 _ _ w.heap.size #[.int .u8 k, .map (some (w.heap.size + 1))] _ (by rfl) (by rfl) HST.out.row info46) rfl (HP.out _ _ ⟨HST.out.bel _ _ PJ.out.bel (Nat.le_refl _), Or.inr ⟨HO.out, _, _, rfl, hlen, by omega, HST.out.fm (by omega) HM.out⟩⟩)
end Go.Proofs.Ytnhipamajelalaa
