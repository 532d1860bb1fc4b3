/-
  bury: the dead ahead of one are dropped.
-/
import Derived.Test.YtecalelfofgfpaaArN
namespace Go.Proofs.Ytecalelfofgfpaa
open Go.RowKit Go.Deep
set_option linter.unusedVariables false
set_option linter.unusedSimpArgs false

def liv (nd : Nat → Nd) (L : List Nat) : List Nat := L.filter fun b => !(nd b).dd
/-- what is left when the dead among the first j are gone. -/
def lft (nd : Nat → Nd) (L : List Nat) (j : Nat) : List Nat := liv nd (L.take j) ++ L.drop j
/-- nodes that are as they were. -/
def Sm (nd nd' : Nat → Nd) (L : List Nat) : Prop := ∀ x ∈ L, (nd' x).dd = (nd x).dd ∧ (nd' x).life = (nd x).life ∧ (nd' x).idx = (nd x).idx
theorem lft_zero (nd : Nat → Nd) (L : List Nat) : lft nd L 0 = L := by simp [lft, liv]
theorem lft_dead {nd : Nat → Nd} {L : List Nat} {j : Nat} (hj : j < L.length) (hd : (nd L[j]).dd = true) : lft nd L (j + 1) = liv nd (L.take j) ++ L.drop (j + 1) := by
  unfold lft liv
  rw [List.take_add_one, List.getElem?_eq_getElem hj, Option.toList_some, List.filter_append]
  simp [hd]
theorem lft_live {nd : Nat → Nd} {L : List Nat} {j : Nat} (hj : j < L.length) (hd : (nd L[j]).dd = false) : lft nd L (j + 1) = lft nd L j := by
  unfold lft liv
  rw [List.take_add_one, List.getElem?_eq_getElem hj, Option.toList_some, List.filter_append, List.drop_eq_getElem_cons hj]
  simp [hd]
theorem lft_at {nd : Nat → Nd} {L : List Nat} {j : Nat} (hj : j < L.length) : ∃ h : (liv nd (L.take j)).length < (lft nd L j).length, (lft nd L j)[(liv nd (L.take j)).length] = L[j] ∧ (lft nd L j)[(liv nd (L.take j)).length + 1]? = L[j + 1]? ∧ (lft nd L j).eraseIdx (liv nd (L.take j)).length = liv nd (L.take j) ++ L.drop (j + 1) := by
  have h1 : lft nd L j = liv nd (L.take j) ++ L[j] :: L.drop (j + 1) := by unfold lft; rw [List.drop_eq_getElem_cons hj]
  rw [h1]
  refine ⟨by simp; omega, by simp, ?_, ?_⟩
  · rw [List.getElem?_append_right (by omega)]
    simp
  · rw [List.eraseIdx_append_of_length_le (Nat.le_refl _)]
    simp
theorem lft_none {nd : Nat → Nd} {L : List Nat} : ∀ (m j : Nat), j ≤ m → m ≤ L.length → (∀ x ∈ L.drop j, (nd x).dd = false) → lft nd L m = lft nd L j := by
  intro m
  induction m with
  | zero =>
    intro j h1 _ _
    have : j = 0 := by omega
    rw [this]
  | succ m ih =>
    intro j h1 h2 h3
    by_cases e : j = m + 1
    · rw [e]
    · rw [← ih j (by omega) (by omega) h3]
      refine lft_live (by omega) (h3 _ ?_)
      have : L[m] = (L.drop j)[m - j]'(by simp; omega) := by simp [show j + (m - j) = m by omega]
      rw [this]
      exact List.getElem_mem _
theorem dds_lft {nd : Nat → Nd} (L : List Nat) (j : Nat) : dds nd (lft nd L j) = dds nd (L.drop j) := by
  unfold lft dds liv
  rw [List.filter_append, List.length_append, List.filter_filter]
  have : (L.take j).filter (fun a => (nd a).dd && !(nd a).dd) = [] := by
    rw [List.filter_eq_nil_iff]
    intro a _
    cases (nd a).dd <;> simp
  rw [this]
  simp
theorem dds_split (nd : Nat → Nd) (L : List Nat) (j : Nat) : dds nd L = dds nd (L.take j) + dds nd (L.drop j) := by
  unfold dds
  conv => lhs; rw [← List.take_append_drop j L]
  rw [List.filter_append, List.length_append]
theorem dds_zero {nd : Nat → Nd} {L : List Nat} (h : dds nd L = 0) : ∀ x ∈ L, (nd x).dd = false := by
  intro x hx
  cases hd : (nd x).dd with
  | false => rfl
  | true => have := dds_pos hx hd; omega
theorem dds_take {nd : Nat → Nd} {L : List Nat} {j : Nat} (hj : j < L.length) : dds nd (L.take (j + 1)) = dds nd (L.take j) + (if (nd L[j]).dd = true then 1 else 0) := by
  unfold dds
  rw [List.take_add_one, List.getElem?_eq_getElem hj, Option.toList_some, List.filter_append, List.length_append]
  cases h : (nd L[j]).dd <;> simp [h]
/-- how far bury has come. -/
structure Bu (base : Nat) (w0 : World) (A Q room : Nat) (s0 : ArS) (L0 : List Nat) (j : Nat) (w : World) : Prop where
  st : ∃ s F, Mq base w A Q room s (lft s0.nd L0 j) F ∧ Sm s0.nd s.nd (lft s0.nd L0 j) ∧ s.tk + dds s0.nd (L0.take j) = s0.tk ∧ s.bs = s0.bs
  kp : Kq base w0 w
theorem Bu.start {base : Nat} {w : World} {A Q room : Nat} {s : ArS} {L F : List Nat} (h : Mq base w A Q room s L F) : Bu base w A Q room s L 0 w :=
  ⟨⟨s, F, by rw [lft_zero]; exact h, fun x _ => ⟨rfl, rfl, rfl⟩, by simp [dds], rfl⟩, Kq.refl _ _⟩
theorem Sm.dds {nd nd' : Nat → Nd} {L : List Nat} (h : Sm nd nd' L) : dds nd' L = dds nd L := (cnt_congr (fun x hx => (h x hx).1)).2
theorem mem_lft {nd : Nat → Nd} {L : List Nat} {j x : Nat} (h : x ∈ lft nd L j) : x ∈ L := by
  unfold lft liv at h
  rcases List.mem_append.1 h with h | h
  · exact List.mem_of_mem_take (List.mem_filter.1 h).1
  · exact List.mem_of_mem_drop h
/-- a live one is passed by. -/
theorem Bu.live {base : Nat} {w0 w : World} {A Q room : Nat} {s0 : ArS} {L0 : List Nat} {j : Nat} (h : Bu base w0 A Q room s0 L0 j w) (hj : j < L0.length) (hd : (s0.nd L0[j]).dd = false) : Bu base w0 A Q room s0 L0 (j + 1) w := by
  obtain ⟨⟨s, F, h1, h2, h3, h4⟩, h5⟩ := h
  refine ⟨⟨s, F, ?_, ?_, ?_, h4⟩, h5⟩
  · rw [lft_live hj hd]; exact h1
  · rw [lft_live hj hd]; exact h2
  · rw [dds_take hj, hd]; simpa using h3
/-- a dead one is taken out and dropped. -/
theorem Bu.unlink {base : Nat} {w0 w : World} {A Q room : Nat} {s0 : ArS} {L0 : List Nat} {j : Nat} (h : Bu base w0 A Q room s0 L0 j w) (hr : room ≤ 65536) (hj : j < L0.length) (hd : (s0.nd L0[j]).dd = true) :
    Calls Try.prog 73 #[.pointer (some ⟨Q, 0, none⟩), .pointer (some ⟨L0[j], 0, none⟩)] w fun e w' => e = .returned (.tuple #[]) ∧
      (w'.cell? ⟨Q, 0, none⟩ = some (.pointer (some ⟨A, 0, none⟩))) ∧
      Calls Try.prog 70 #[.pointer (some ⟨A, 0, none⟩), .pointer (some ⟨L0[j], 0, none⟩)] w' fun e w2 => e = .returned (.tuple #[]) ∧ Bu base w0 A Q room s0 L0 (j + 1) w2 := by
  obtain ⟨⟨s, F, h1, h2, h3, h4⟩, h5⟩ := h
  obtain ⟨hk, e1, e2, e3⟩ := lft_at (nd := s0.nd) hj
  have hmem : L0[j] ∈ lft s0.nd L0 j := by rw [← e1]; exact List.getElem_mem _
  have hU := h1.unlink hr hk
  rw [e1, e3] at hU
  refine hU.mono ?_
  rintro e w' ⟨rfl, k1, k2⟩
  have hnod := h1.pq.nod
  have hnot : L0[j] ∉ liv s0.nd (L0.take j) ++ L0.drop (j + 1) := by
    rw [← e3]
    intro hx
    exact ((mem_erase hk hnod).1 hx).2 e1.symm
  have hF : L0[j] ∉ F := fun hF => h1.pq.disj hmem hF
  have hlt := h1.pq.lt
  have hlen : (liv s0.nd (L0.take j) ++ L0.drop (j + 1)).length + 1 ≤ s.tk := by
    rw [← e3, List.length_eraseIdx_of_lt hk]
    omega
  refine ⟨rfl, ?_, ?_⟩
  · rw [row_cell k1.aq.qr 0]; simp [qrow]
  · refine (k1.release hr (b := L0[j]) (h1.pq.mem _ hmem).1 hnot hF hlen).mono ?_
    rintro e w2 ⟨rfl, r1, r2⟩
    refine ⟨rfl, ⟨(s.unl L0[j]).gone L0[j], L0[j] :: F, ?_, ?_, ?_, ?_⟩, (h5.trans k2).trans r2⟩
    · rw [lft_dead hj hd]; exact r1
    · rw [lft_dead hj hd]
      intro x hx
      have hxe : ¬ x = L0[j] := fun e => hnot (e ▸ hx)
      have hxl : x ∈ lft s0.nd L0 j := by rw [← e3] at hx; exact ((mem_erase hk hnod).1 hx).1
      obtain ⟨m1, m2, m3⟩ := h2 x hxl
      have hap := h1.pq.lk.apart hnod hk
      rw [e1] at hap
      obtain ⟨u1, u2, u3, u4, u5, u6⟩ := unl_same s.nd L0[j] x hxe hap
      have hg : ((s.unl L0[j]).gone L0[j]).nd x = unl s.nd L0[j] x := upd_other _ _ _ _ hxe
      rw [hg]
      exact ⟨u1.trans m1, u4.trans m2, u5.trans m3⟩
    · rw [dds_take hj, hd]
      show (s.tk - 1) + _ = _
      simp
      omega
    · exact h4
/-- what a round of bury reads. -/
theorem Bu.reads {base : Nat} {w0 w : World} {A Q room : Nat} {s0 : ArS} {L0 : List Nat} {j : Nat} (h : Bu base w0 A Q room s0 L0 j w) (hj : j < L0.length) :
    w.cell? ⟨L0[j], 7, none⟩ = some (pb L0[j + 1]?) ∧ w.cell? ⟨L0[j], 5, none⟩ = some (.bool (s0.nd L0[j]).dd) ∧ ∃ c, w.heap[L0[j]]? = some (.cells c 94 (0, 0)) := by
  obtain ⟨⟨s, F, h1, h2, h3, h4⟩, h5⟩ := h
  obtain ⟨hk, e1, e2, e3⟩ := lft_at (nd := s0.nd) hj
  have hmem : L0[j] ∈ lft s0.nd L0 j := by rw [← e1]; exact List.getElem_mem _
  have hn := (h1.aq.ar.node (h1.pq.mem _ hmem).1).2
  have hb := (h1.pq.lk _ hk).2
  rw [e1, e2] at hb
  refine ⟨?_, ?_, _, hn⟩
  · rw [row_cell hn 7]; simp [nrow, hb]
  · rw [row_cell hn 5]; simp [nrow, (h2 _ hmem).1]
theorem Bu.dead {base : Nat} {w0 w : World} {A Q room : Nat} {s0 : ArS} {L0 : List Nat} {j : Nat} (h : Bu base w0 A Q room s0 L0 j w) : w.cell? ⟨Q, 5, none⟩ = some (.int .i64 (dds s0.nd (L0.drop j) : Nat)) := by
  obtain ⟨⟨s, F, h1, h2, h3, h4⟩, h5⟩ := h
  rw [row_cell h1.aq.qr 5, ← dds_lft, ← h2.dds]
  simp [qrow, qsOf]
/-- none dead is left: all is done. -/
theorem Bu.skip {base : Nat} {w0 w : World} {A Q room : Nat} {s0 : ArS} {L0 : List Nat} {j m : Nat} (h : Bu base w0 A Q room s0 L0 j w) (hjm : j ≤ m) (hm : m ≤ L0.length) (hd : dds s0.nd (L0.drop j) = 0) : Bu base w0 A Q room s0 L0 m w := by
  obtain ⟨⟨s, F, h1, h2, h3, h4⟩, h5⟩ := h
  have e := lft_none (nd := s0.nd) m j hjm hm (dds_zero hd)
  refine ⟨⟨s, F, by rw [e]; exact h1, by rw [e]; exact h2, ?_, h4⟩, h5⟩
  have h6 := dds_split s0.nd L0 m
  have h7 := dds_split s0.nd L0 j
  have h8 : dds s0.nd (L0.drop m) = 0 := by
    unfold dds at hd ⊢
    rw [List.length_eq_zero_iff] at hd ⊢
    rw [List.filter_eq_nil_iff] at hd ⊢
    intro x hx
    refine hd x ?_
    rw [show m = j + (m - j) by omega, ← List.drop_drop] at hx
    exact List.mem_of_mem_drop hx
  omega
theorem Bu.front {base : Nat} {w : World} {A Q room : Nat} {s : ArS} {L F : List Nat} (h : Mq base w A Q room s L F) : w.cell? ⟨Q, 1, none⟩ = some (pb L[0]?) := by
  rw [row_cell h.aq.qr 1]
  simp [qrow, qsOf, List.head?_eq_getElem?]
theorem pb_inj {x : Nat} {ev : Value} (h : pb (some x) = ev) : ev = .pointer (some ⟨x, 0, none⟩) := h.symm
set_option maxHeartbeats 2000000 in
set_option maxRecDepth 100000 in
theorem bury_any {base : Nat} {w : World} {A Q room : Nat} {s : ArS} {L F : List Nat} (h : Mq base w A Q room s L F) (hr : room ≤ 65536) (m : Nat) (hm : m ≤ L.length) (ev : Value) (hev : ev = pb L[m]?) :
    Calls Try.prog 74 #[.pointer (some ⟨Q, 0, none⟩), ev] w fun e w' => e = .returned (.tuple #[]) ∧ Bu base w A Q room s L m w' := by
  have HS := hid (Bu.start h)
  have HN := hid h.pq.nod
  have HR := hid hr
  have HM := hid hm
  have HE := hid hev
  have hfr := Bu.front h
  have hdl : ∀ j, dds s.nd (L.drop j) ≤ 65536 := fun j => by
    have h1 := dds_split s.nd L j
    have h2 := lvs_dds s.nd L
    have h3 := h.pq.room_le
    omega
  have HDL := hid hdl
  obtain ⟨v0, hv0⟩ : ∃ v0, pb L[0]? = v0 := ⟨_, rfl⟩
  rw [hv0] at hfr
  have HV := hid hv0
  clear h hr hm hev hdl hv0
  go_enter Try.func74, Try.ntmps74
  go_wp2_with fail
  go_loopw [4] (fun v wr => ∃ j : Nat, j ≤ m ∧ v = pb L[j]? ∧ Hid (Bu base w A Q room s L j wr)) (fun v _ => far L v)
  case atStart => exact ⟨0, Nat.zero_le _, HV.out.symm, HS⟩
  case round =>
    obtain ⟨j, hj, rfl, HB⟩ := hrel
    clear HS
    by_cases hjm : j = m
    · subst hjm
      have he := HE.out
      cases hlj : L[j]? with
      | none =>
        rw [hlj] at he
        simp only [pb] at he ⊢
        subst he
        clear hlj
        go_wp2
        go_end0
        exact ⟨rfl, HB.out⟩
      | some x =>
        rw [hlj] at he
        simp only [pb] at he ⊢
        subst he
        have hnq := neq_of_eq (eq89_same wr x)
        clear hlj
        go_wp2
        go_end0
        exact ⟨rfl, HB.out⟩
    · have hlt : j < L.length := by have := HM.out; omega
      have hjm2 : j < m := by omega
      obtain ⟨r7, r5, rc, hrow⟩ := HB.out.reads hlt
      have hq5 := HB.out.dead
      have hfa := far_at HN.out j hlt
      rw [List.getElem?_eq_getElem hlt]
      have hne : (binOp .neq 89 (.pointer (some ⟨L[j], 0, none⟩)) ev).run Try.prog wr = .ok (.bool true) wr := by
        rw [HE.out]
        by_cases hml : m < L.length
        · rw [List.getElem?_eq_getElem hml]
          simp only [pb]
          have hrm : ∃ c, wr.heap[L[m]]? = some (.cells c 94 (0, 0)) := by
            obtain ⟨⟨s1, F1, h1, h2, h3, h4⟩, h5⟩ := HB.out
            have hmem : L[m] ∈ lft s.nd L j := by
              unfold lft
              refine List.mem_append_right _ ?_
              have : L[m] = (L.drop j)[m - j]'(by simp; omega) := by simp [show j + (m - j) = m by omega]
              rw [this]
              exact List.getElem_mem _
            exact ⟨_, (h1.aq.ar.node (h1.pq.mem _ hmem).1).2⟩
          obtain ⟨cm, hrm⟩ := hrm
          refine neq_of_eq (r := false) (eq89_other wr ?_ hrow hrm)
          intro e
          have := nodup_get HN.out (List.getElem?_eq_getElem hlt) (by rw [e]; exact List.getElem?_eq_getElem hml)
          omega
        · rw [List.getElem?_eq_none (by omega)]
          simp only [pb]
          rw [run_neq_pointer_nil wr 89 _ Try.underlying89]
          rfl
      have hdl := HDL.out j
      have UL := hid (fun hd => HB.out.unlink HR.out hlt hd)
      have LV := hid (fun hd => HB.out.live hlt hd)
      obtain ⟨dn, hdn⟩ : ∃ dn, dds s.nd (L.drop j) = dn := ⟨_, rfl⟩
      obtain ⟨x, hx⟩ : ∃ x, L[j] = x := ⟨_, rfl⟩
      obtain ⟨dd, hdd⟩ : ∃ dd, (s.nd L[j]).dd = dd := ⟨_, rfl⟩
      rw [hdd] at r5 UL LV
      rw [hx] at r7 r5 hne hfa UL ⊢
      rw [hdn] at hq5 hdl
      obtain ⟨nv, hnv⟩ : ∃ nv, pb L[j + 1]? = nv := ⟨_, rfl⟩
      rw [hnv] at r7
      have HNV := hid hnv
      have HJM := hid hjm2
      have HFA := hid (show far L nv < far L (pb (some x)) from by
        rw [← hnv]
        show _ < far L (.pointer (some ⟨x, 0, none⟩))
        rw [hfa]
        by_cases h3 : j + 1 < L.length
        · rw [List.getElem?_eq_getElem h3]; simp only [pb]; rw [far_at HN.out _ h3]; omega
        · rw [List.getElem?_eq_none (by omega)]; simp only [pb, far]; omega)
      by_cases hd0 : dn = 0
      · have HSK := hid (HB.out.skip (Nat.le_of_lt hjm2) HM.out (by rw [hdn, hd0]))
        subst hd0
        clear hdn hx hdd hnv hrow hfa hlt hjm2 hjm hj UL LV
        simp only [pb]
        go_wp2
        go_end0
        exact ⟨rfl, HSK.out⟩
      · have d1 : (0 : Int) < (dn : Int) := by omega
        clear hdn hx hdd hnv hrow hfa hlt hjm2 hjm hj
        cases dd with
        | false =>
          have HL2 := hid (LV.out rfl)
          clear UL LV HB
          simp only [pb]
          go_wp2
          go_roundw
          case rel => exact ⟨j + 1, HJM.out, HNV.out.symm, HL2⟩
          case measure => exact HFA.out
        | true =>
          have UL2 := hid (UL.out rfl)
          clear UL LV HB
          simp only [pb]
          go_wp2_with (first | (go_at_call 73; refine (UL2.out).mono ?_; rintro e w1 ⟨rfl, hq0, hrel⟩; have HREL := hid hrel; clear hrel; refine Hid.out ?_))
          refine hid ?_
          go_wp2_with (first | (go_at_call 70; refine (HREL.out).mono ?_; rintro e w2 ⟨rfl, hb⟩; have HB2 := hid hb; clear hb; refine Hid.out ?_))
          refine hid ?_
          go_wp2
          go_roundw
          case rel => exact ⟨j + 1, HJM.out, HNV.out.symm, HB2⟩
          case measure => exact HFA.out
end Go.Proofs.Ytecalelfofgfpaa
