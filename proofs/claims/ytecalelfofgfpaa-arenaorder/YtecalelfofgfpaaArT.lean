/-
  A node that is taken; All.
-/
import Derived.Test.YtecalelfofgfpaaArS
import Derived.Laws.MakeOwn
namespace Go.Proofs.Ytecalelfofgfpaa
open Go.RowKit Go.Deep
set_option linter.unusedVariables false
set_option linter.unusedSimpArgs false

theorem n102 : ¬ Mine 102 := by unfold Mine; decide
/-- one more is taken. -/
theorem Pq.take {Q room : Nat} {s : ArS} {L F : List Nat} (h : Pq Q room s L F) (hw : Wf s) (ht : s.tk < room) {b : Nat} {s1 : ArS} (hs : Sp s b s1) (v : Int) :
    ∃ F', Pq Q room (s1.took b v) L F' ∧ b ∉ L ∧ b ∉ F' ∧ (∀ x ∈ L, (s1.took b v).nd x = s.nd x) ∧ (s1.took b v).at (s1.nd b).idx (((s1.nd b).life + 1) % 4294967296) = some b ∧ (s1.took b v).tk = s.tk + 1 := by
  rcases hs with ⟨hf, rfl⟩ | ⟨hf, hb, rfl⟩
  · have hch := h.ch
    rw [hf] at hch
    cases F with
    | nil => exact absurd hch (by simp [Ch])
    | cons c F' =>
      obtain ⟨rfl, hch⟩ := hch
      obtain ⟨hbm, htk⟩ := h.fre b List.mem_cons_self
      have hbF : b ∉ F' := (List.nodup_cons.1 h.fnod).1
      have hbL : b ∉ L := fun hh => h.disj hh List.mem_cons_self
      have e1 : ((s.pop b).nd b) = { s.nd b with be := none } := by simp [ArS.pop, upd_same]
      have e2 : ((s.pop b).took b v).nd = upd s.nd b { s.nd b with be := none, life := ((s.nd b).life + 1) % 4294967296, tk := true, v := v } := by
        simp only [ArS.took, e1]
        simp only [ArS.pop, upd_upd]
      have hx : ∀ x, ¬ x = b → ((s.pop b).took b v).nd x = s.nd x := fun x hx => by rw [e2, upd_other _ _ _ _ hx]
      have hLx : ∀ x ∈ L, ¬ x = b := fun x hxL e => hbL (e ▸ hxL)
      obtain ⟨o1, o2, o3⟩ := h.oth b hbm hbL
      refine ⟨F', ⟨?_, h.nod, ?_, ?_, (List.nodup_cons.1 h.fnod).2, ?_, ?_, h.rm, ?_, h.cap, ?_⟩, hbL, hbF, fun x hxL => hx x (hLx x hxL), ?_, rfl⟩
      · intro i hi
        rw [hx _ (hLx _ (List.getElem_mem hi))]
        exact h.lk i hi
      · intro x hxL
        rw [hx x (hLx x hxL)]
        exact h.mem x hxL
      · show Ch _ (s.nd b).be F'
        exact Ch.congr (fun x hxF => by rw [hx x (fun e => hbF (e ▸ hxF))]) hch
      · intro x hxF
        rw [hx x (fun e => hbF (e ▸ hxF))]
        exact h.fre x (List.mem_cons_of_mem _ hxF)
      · intro x hxb hxL
        by_cases e : x = b
        · subst e
          rw [e2, upd_same]
          exact ⟨o1, o2, fun _ => ⟨rfl, rfl⟩⟩
        · rw [hx x e]
          obtain ⟨p1, p2, p3⟩ := h.oth x hxb hxL
          exact ⟨p1, p2, fun hh => p3 (fun hF2 => by rcases List.mem_cons.1 hF2 with h4 | h4; exact e h4; exact hh h4)⟩
      · show s.bs.length = (s.tk + 1) + F'.length
        have := h.len
        simp at this
        omega
      · show L.length ≤ s.tk + 1
        have := h.lt
        omega
      · have hib := hw.idx hbm
        rw [e1, at_upd (s := s) (s' := (s.pop b).took b v) hw.1 rfl e2 hib, if_pos rfl, if_pos ⟨rfl, rfl⟩]
  · have hch := h.ch
    rw [hf] at hch
    cases F with
    | cons c F' => exact absurd hch (by simp [Ch])
    | nil =>
      have hbL : b ∉ L := fun hh => hb (h.mem b hh).1
      have e1 : ((s.more b).nd b) = ndN s.bs.length := by simp [ArS.more, upd_same]
      have e2 : ((s.more b).took b v).nd = upd s.nd b { ndN s.bs.length with life := (0 + 1) % 4294967296, tk := true, v := v } := by
        simp only [ArS.took, e1]
        simp only [ArS.more, upd_upd, ndN]
      have hx : ∀ x, ¬ x = b → ((s.more b).took b v).nd x = s.nd x := fun x hx => by rw [e2, upd_other _ _ _ _ hx]
      have hLx : ∀ x ∈ L, ¬ x = b := fun x hxL e => hbL (e ▸ hxL)
      have hlen := h.len
      simp at hlen
      refine ⟨[], ⟨?_, h.nod, ?_, ?_, List.nodup_nil, fun x hxF => by simp at hxF, ?_, h.rm, ?_, ?_, ?_⟩, hbL, by simp, fun x hxL => hx x (hLx x hxL), ?_, rfl⟩
      · intro i hi
        rw [hx _ (hLx _ (List.getElem_mem hi))]
        exact h.lk i hi
      · intro x hxL
        rw [hx x (hLx x hxL)]
        obtain ⟨m1, m2⟩ := h.mem x hxL
        exact ⟨List.mem_append_left _ m1, m2⟩
      · show Ch _ s.fr []
        rw [hf]
        trivial
      · intro x hxb hxL
        have hxb : x ∈ s.bs ++ [b] := hxb
        by_cases e : x = b
        · subst e
          rw [e2, upd_same]
          exact ⟨rfl, rfl, fun _ => ⟨rfl, rfl⟩⟩
        · rw [hx x e]
          simp [e] at hxb
          exact h.oth x hxb hxL
      · show (s.bs ++ [b]).length = (s.tk + 1) + 0
        simp
        omega
      · show (s.bs ++ [b]).length ≤ room
        simp
        omega
      · show L.length ≤ s.tk + 1
        have := h.lt
        omega
      · rw [e1, at_more (s := s) (s' := (s.more b).took b v) hb rfl e2]; simp [ndN]
theorem Pq.frm {Q room : Nat} {s : ArS} {L F : List Nat} (h : Pq Q room s L F) : ∀ b, s.fr = some b → b ∈ s.bs := by
  intro b hb
  have hc := h.ch
  rw [hb] at hc
  cases F with
  | nil => exact absurd hc (by simp [Ch])
  | cons c F => obtain ⟨rfl, _⟩ := hc; exact (h.fre b List.mem_cons_self).1
/-- Take, with room. -/
theorem Mq.take {base : Nat} {w : World} {A Q room : Nat} {s : ArS} {L F : List Nat} (h : Mq base w A Q room s L F) (hr : room ≤ 65536) (ht : s.tk < room) (v : Int) :
    Calls Try.prog 15 #[.pointer (some ⟨A, 0, none⟩), .int .i64 v] w fun e w' => ∃ b s' F' i l, e = .returned (.tuple #[.agg #[.int .u32 (i : Nat), .int .u32 (l : Nat)], .int .i64 0]) ∧ Mq base w' A Q room s' L F' ∧ Kp base w w' ∧ b ∉ L ∧ b ∉ F' ∧ (∀ x ∈ L, s'.nd x = s.nd x) ∧ s'.at i l = some b ∧ s'.tk = s.tk + 1 := by
  refine (take_any h.aq.ar v (by rw [h.pq.rm]; exact ht) (by rw [h.pq.rm]; exact hr) h.pq.frm (h.pq.small hr)).mono ?_
  rintro e w' ⟨b, s1, hsp, hb1, rfl, har, hkp⟩
  obtain ⟨F', p1, p2, p3, p4, p5, p6⟩ := h.pq.take h.aq.ar.wf ht hsp v
  refine ⟨b, s1.took b v, F', _, _, rfl, ⟨⟨har, h.aq.qlow, ?_⟩, p1⟩, hkp, p2, p3, p4, p5, p6⟩
  rw [qs_same (nd := s.nd) (fun x hx => by rw [p4 x hx])]
  exact hkp.blk _ _ _ h.aq.qr n102
theorem Mq.full {base : Nat} {w : World} {A Q room : Nat} {s : ArS} {L F : List Nat} (h : Mq base w A Q room s L F) (hr : room ≤ 65536) (ht : s.tk = room) (v : Int) :
    Calls Try.prog 15 #[.pointer (some ⟨A, 0, none⟩), .int .i64 v] w fun e w' => e = .returned (.tuple #[.agg #[.int .u32 0, .int .u32 0], .int .i64 51]) ∧ Below w.heap.size w w' :=
  take_full h.aq.ar v (by rw [ht, h.pq.rm]) (by rw [h.pq.rm]; exact hr)
/-- a node's handle. -/
def hd (nd : Nat → Nd) (b : Nat) : Nat × Nat := ((nd b).idx, (nd b).life)
def hds (nd : Nat → Nd) (L : List Nat) : List (Nat × Nat) := (liv nd L).map (hd nd)
theorem fst_none_liv {nd : Nat → Nd} {L : List Nat} (h : fst nd L = none) : liv nd L = [] := by
  unfold fst at h
  unfold liv
  rw [List.find?_eq_none] at h
  rw [List.filter_eq_nil_iff]
  exact h
theorem liv_take {nd : Nat → Nd} {L : List Nat} {k m : Nat} (hm : m < (L.drop k).length) (hl : liv nd ((L.drop k).take m) = []) (hd : (nd (L.drop k)[m]).dd = false) : liv nd (L.take (k + m + 1)) = liv nd (L.take k) ++ [(L.drop k)[m]] := by
  have h1 : L.take (k + m + 1) = L.take k ++ (L.drop k).take (m + 1) := by rw [Nat.add_assoc, List.take_add]
  rw [h1]
  unfold liv at hl ⊢
  rw [List.filter_append, List.take_add_one, List.getElem?_eq_getElem hm, Option.toList_some, List.filter_append, hl]
  simp only [List.filter_cons, List.filter_nil, hd]
  simp
theorem liv_rest {nd : Nat → Nd} {L : List Nat} {k : Nat} (h : fst nd (L.drop k) = none) : liv nd (L.take k) = liv nd L := by
  have h1 := fst_none_liv h
  conv => rhs; rw [← List.take_append_drop k L]
  unfold liv at h1 ⊢
  rw [List.filter_append, h1, List.append_nil]
theorem far_lt {L : List Nat} (hn : L.Nodup) {nd : Nat → Nd} {j : Nat} (hj : j < L.length) : far L (pb (fst nd (L.drop (j + 1)))) < far L (.pointer (some ⟨L[j], 0, none⟩)) := by
  rw [far_at hn j hj]
  cases h : fst nd (L.drop (j + 1)) with
  | none => simp only [pb, far]; omega
  | some y =>
    obtain ⟨m, hm, e1, _⟩ := fst_index h
    have hlt : j + 1 + m < L.length := by simp at hm; omega
    have e2 : L[j + 1 + m] = y := by rw [← e1]; simp
    simp only [pb]
    rw [← e2, far_at hn _ hlt]
    omega
set_option maxHeartbeats 1000000 in
set_option maxRecDepth 100000 in
theorem all_any {base : Nat} {w : World} {A Q room : Nat} {s : ArS} {L F : List Nat} (h : Mq base w A Q room s L F) (hr : room ≤ 65536) :
    Calls Try.prog 33 #[.pointer (some ⟨Q, 0, none⟩)] w fun e w' => ∃ v, e = .returned v ∧ OwH w.heap.size w' v (hds s.nd L) ∧ Below w.heap.size w w' := by
  obtain ⟨lv, hlv⟩ : ∃ lv, lvs s.nd L = lv := ⟨_, rfl⟩
  have hl2 := lvs_dds s.nd L
  have hl3 := h.pq.room_le
  have hlb : lv ≤ 65536 := by omega
  obtain ⟨i0, hi, hz0, hz1, hz2⟩ := info_parts info34all
  obtain ⟨MC, hMC, hms⟩ : ∃ MC : Array Value, madeCells #[.int .u32 0, .int .u32 0] (lv * 2) = MC ∧ MC.size = lv * 2 := ⟨_, rfl, by simp [madeCells]⟩
  have hmk : ∀ u : World, (Instr.makeSlice 29 (.int .i64 0) (.int .i64 (lv : Nat))).run Try.prog u = .ok (.slice (some ⟨u.heap.size, 0, none⟩) 0 lv) (u.alloc (.cells MC 34)) := fun u => by
    have := run_make (P := Try.prog) u 29 34 i0 (.agg #[.int .u32 0, .int .u32 0]) Try.underlying29 hi hz0 .i64 .i64 0 (lv : Nat) (by omega) (by omega) (by rw [hz2]; omega) (by omega)
    rw [hz1] at this
    simpa [Value.cells, hMC] using this
  have q4 : w.cell? ⟨Q, 4, none⟩ = some (.int .i64 lv) := by rw [row_cell h.aq.qr 4]; simp [qrow, qsOf, hlv]
  obtain ⟨v0, hv0⟩ : ∃ v0, pb (fst s.nd L) = v0 := ⟨_, rfl⟩
  have q3 : w.cell? ⟨Q, 3, none⟩ = some v0 := by rw [row_cell h.aq.qr 3, ← hv0]; simp [qrow, qsOf]
  have hQ : Q < w.heap.size := row_lt h.aq.qr
  have hne : ¬ Q = w.heap.size := by omega
  have HS := hid (show OwH w.heap.size (w.alloc (.cells MC 34)) (.slice (some ⟨w.heap.size, 0, none⟩) 0 lv) (hds s.nd (L.take 0)) from World.ownsRow_made w MC lv (Nat.le_refl _) (by unfold maxLen; omega) hms)
  have HV0 := hid hv0
  have HH := hid h
  have HR := hid hr
  have HLB := hid (show L.length ≤ 65536 by omega)
  clear h hl2 hl3 hi hz0 hz1 hz2 hMC hms hv0 hlv hr
  go_enter Try.func33, Try.ntmps33
  go_wp2_with fail
  go_loopw [3, 4] (fun rv nv wr => ∃ k : Nat, k ≤ L.length ∧ nv = pb (fst s.nd (L.drop k)) ∧ Hid (OwH w.heap.size wr rv (hds s.nd (L.take k))) ∧ Hid (Below w.heap.size w wr)) (fun _ nv _ => far L nv)
  case atStart => exact ⟨0, Nat.zero_le _, by rw [List.drop_zero]; exact HV0.out.symm, HS, hid (ball _ _)⟩
  case round =>
    obtain ⟨k, hk, rfl, HO, HB⟩ := hrel
    clear HS
    cases hf : fst s.nd (L.drop k) with
    | none =>
      have HF := hid (show OwH w.heap.size wr _ (hds s.nd L) from by have := HO.out; unfold hds at this ⊢; rw [liv_rest hf] at this; exact this)
      simp only [pb]
      clear hf
      go_wp2
      go_ret
      exact ⟨_, rfl, HF.out, HB.out⟩
    | some b =>
      obtain ⟨m, hm, e1, e2, e3⟩ := fst_index hf
      have hlive := (fst_mem hf).2
      have hkm : k + m < L.length := by simp at hm; omega
      have e4 : L[k + m] = b := by rw [← e1]; simp
      have hmem : b ∈ L := by rw [← e4]; exact List.getElem_mem _
      have hbm := (HH.out.pq.mem b hmem).1
      have HT := hid (show hds s.nd (L.take (k + m + 1)) = hds s.nd (L.take k) ++ [((s.nd b).idx, (s.nd b).life)] from by
        unfold hds
        rw [liv_take hm e2 (by rw [e1]; exact hlive), e1, List.map_append]
        rfl)
      have hw := HH.out.on HB.out
      have hn := (hw.aq.ar.node hbm).2
      have c0 : wr.cell? ⟨b, 0, none⟩ = some (.int .u32 (s.nd b).idx) := row_cell hn 0
      have c1 : wr.cell? ⟨b, 1, none⟩ = some (.int .u32 (s.nd b).life) := row_cell hn 1
      have hch := HH.out.pq.lk.ch (k + m) hkm
      rw [e4] at hch
      have NX := hid (show ∀ w', Below w.heap.size w w' → Calls Try.prog 76 #[.pointer (some ⟨b, 0, none⟩)] w' fun e w2 => e = .returned (pb (fst s.nd (L.drop (k + m + 1)))) ∧ w2 = w' from fun w' hb => next_any (HH.out.on hb).aq.ar hbm hch (fun x hx => (HH.out.pq.mem x (List.mem_of_mem_drop hx)).1) (List.Nodup.sublist (List.drop_sublist _ _) HH.out.pq.nod))
      have HFA := hid (show far L (pb (fst s.nd (L.drop (k + m + 1)))) < far L (pb (some b)) from by
        have := far_lt (nd := s.nd) HH.out.pq.nod hkm
        rw [e4] at this
        exact this)
      have HLE := hid (show (hds s.nd (L.take k)).length ≤ 65536 from by
        unfold hds
        rw [List.length_map]
        have h1 : (liv s.nd (L.take k)).length ≤ (L.take k).length := List.length_filter_le _ _
        rw [List.length_take] at h1
        have := HLB.out
        omega)
      have HKM := hid hkm
      obtain ⟨ix, hix⟩ : ∃ ix, (s.nd b).idx = ix := ⟨_, rfl⟩
      obtain ⟨lf, hlf⟩ : ∃ lf, (s.nd b).life = lf := ⟨_, rfl⟩
      rw [hix] at c0 HT
      rw [hlf] at c1 HT
      obtain ⟨rp, rc, hrv⟩ := HO.out.form
      subst hrv
      obtain ⟨nn, hnn⟩ : ∃ nn, pb (fst s.nd (L.drop (k + m + 1))) = nn := ⟨_, rfl⟩
      rw [hnn] at NX HFA
      have HNN := hid hnn
      clear hf e1 e2 e3 e4 hm hlive hkm hmem hbm hw hn hch hix hlf hnn
      simp only [pb]
      go_wp2_with (first | (at_builtin; refine own_h (by rfl) (.tmp 18) (.tmp 23) (by rfl) w.heap.size _ (hds s.nd (L.take k)) (by rfl) wr ix lf HO.out (by rfl) (by have := HLE.out; omega) HB.out.size ?_; intro v' w7 ho hap; have HO7 := hid ho; have HB7 := hid (HB.out.trans hap.1); clear ho hap; refine Hid.out ?_))
      refine hid ?_
      go_wp2_with (first | (go_at_call 76; refine (NX.out _ HB7.out).mono ?_; rintro e w8 ⟨rfl, rfl⟩))
      go_roundw
      case rel => exact ⟨k + m + 1, HKM.out, HNN.out.symm, by rw [HT.out]; exact HO7, HB7⟩
      case measure => exact HFA.out
end Go.Proofs.Ytecalelfofgfpaa
