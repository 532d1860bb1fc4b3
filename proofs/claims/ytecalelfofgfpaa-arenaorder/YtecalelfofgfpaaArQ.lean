/-
  Pop, Mark, a node that is taken.
-/
import Derived.Test.YtecalelfofgfpaaArP
namespace Go.Proofs.Ytecalelfofgfpaa
open Go.RowKit Go.Deep
set_option linter.unusedVariables false
set_option linter.unusedSimpArgs false

/-- what Pop leaves. -/
structure Po (base : Nat) (w0 : World) (A Q room : Nat) (s0 : ArS) (L0 : List Nat) (m : Nat) (w : World) : Prop where
  st : ∃ s F, Mq base w A Q room s (L0.drop (m + 1)) F ∧ Sm s0.nd s.nd (L0.drop (m + 1)) ∧ s.tk + m = s0.tk
  kq : Kq base w0 w
theorem Po.on {base : Nat} {w0 : World} {A Q room : Nat} {s0 : ArS} {L0 : List Nat} {m : Nat} {w w' : World} (h : Po base w0 A Q room s0 L0 m w) (hb : Below w.heap.size w w') : Po base w0 A Q room s0 L0 m w' := by
  obtain ⟨⟨s, F, h1, h2, h3⟩, h4⟩ := h
  exact ⟨⟨s, F, h1.on hb, h2, h3⟩, h4.trans (Kq.of h1.aq.low2 hb)⟩
theorem Po.box {base : Nat} {w w3 : World} {o : Obj} {A Q room : Nat} {s0 : ArS} {L0 : List Nat} {m : Nat} {c : Array Value} (h : Po base (w.alloc o) A Q room s0 L0 m w3) (hz : w3.heap[w.heap.size]? = some (.cells c 34 (0, 0))) (hQ : ¬ Q = w.heap.size) (hlo : base ≤ w.heap.size) (a b : Value) :
    Po base w A Q room s0 L0 m ((w3.setCell ⟨w.heap.size, 0, none⟩ a).setCell ⟨w.heap.size, 1, none⟩ b) := by
  obtain ⟨⟨s', F', p1, p2, p3⟩, p4⟩ := h
  refine ⟨⟨s', F', ⟨⟨(p1.aq.ar.other hz n34 0 _).other (heap_setCell_same _ _ _ _ 34 _ hz) n34 1 _, p1.aq.qlow, ?_⟩, p1.pq⟩, p2, p3⟩, ?_⟩
  · rw [heap_setCell_other _ _ _ _ (by show Q ≠ w.heap.size; exact hQ), heap_setCell_other _ _ _ _ (by show Q ≠ w.heap.size; exact hQ)]
    exact p1.aq.qr
  · refine ⟨((((ball w o).mono hlo).trans p4.bel).setCell hlo _).setCell hlo _, ?_, ?_⟩
    · have := Nat.le_trans (ball w o).size p4.size
      simpa using this
    · intro x o' hx h1 h2
      have hxl := row_lt hx
      rw [heap_setCell_other _ _ _ _ (by show x ≠ w.heap.size; omega), heap_setCell_other _ _ _ _ (by show x ≠ w.heap.size; omega)]
      exact p4.obj x o' (row_on hx (ball w o)) h1 h2
theorem Bu.pop {base : Nat} {w0 w : World} {A Q room : Nat} {s0 : ArS} {L0 : List Nat} {m : Nat} (h : Bu base w0 A Q room s0 L0 m w) (hr : room ≤ 65536) (hm : m < L0.length) (hl : liv s0.nd (L0.take m) = []) (hd : dds s0.nd (L0.take m) = m) :
    Calls Try.prog 73 #[.pointer (some ⟨Q, 0, none⟩), .pointer (some ⟨L0[m], 0, none⟩)] w fun e w' => e = .returned (.tuple #[]) ∧ Po base w0 A Q room s0 L0 m w' ∧
      Calls Try.prog 75 #[.pointer (some ⟨L0[m], 0, none⟩)] w' fun e w2 => e = .returned (.tuple #[.agg #[.int .u32 (s0.nd L0[m]).idx, .int .u32 (s0.nd L0[m]).life], .bool true]) ∧ Po base w0 A Q room s0 L0 m w2 ∧ Below w'.heap.size w' w2 := by
  obtain ⟨⟨s, F, h1, h2, h3, h4⟩, h5⟩ := h
  have hlf : lft s0.nd L0 m = L0.drop m := by unfold lft; rw [hl]; rfl
  rw [hlf] at h1 h2
  have hk : 0 < (L0.drop m).length := by simp; omega
  have e0 : (L0.drop m)[0] = L0[m] := by simp
  have e1 : (L0.drop m).eraseIdx 0 = L0.drop (m + 1) := by rw [List.drop_eq_getElem_cons hm]; rfl
  have hmem : L0[m] ∈ L0.drop m := by rw [← e0]; exact List.getElem_mem _
  obtain ⟨g1, g2, g3⟩ := h2 _ hmem
  have hap := h1.pq.lk.apart h1.pq.nod hk
  have hU := h1.unlink hr hk
  rw [e0] at hap
  rw [e0, e1] at hU
  refine hU.mono ?_
  rintro e w' ⟨rfl, k1, k2⟩
  have hP : Po base w0 A Q room s0 L0 m w' := by
    refine ⟨⟨_, F, k1, ?_, ?_⟩, h5.trans k2⟩
    · intro x hx
      have hxe : ¬ x = L0[m] := by
        intro e
        have := h1.pq.nod
        rw [List.drop_eq_getElem_cons hm, List.nodup_cons] at this
        exact this.1 (e ▸ hx)
      have hxl : x ∈ L0.drop m := by rw [List.drop_eq_getElem_cons hm]; exact List.mem_cons_of_mem _ hx
      obtain ⟨m1, m2, m3⟩ := h2 x hxl
      obtain ⟨u1, u2, u3, u4, u5, u6⟩ := unl_same s.nd L0[m] x hxe hap
      exact ⟨u1.trans m1, u4.trans m2, u5.trans m3⟩
    · show s.tk + m = s0.tk; omega
  refine ⟨rfl, hP, ?_⟩
  have hb : L0[m] ∈ (s.unl L0[m]).bs := (h1.pq.mem _ hmem).1
  refine (named_any k1.aq.ar hb).mono ?_
  rintro e w2 ⟨rfl, hb2⟩
  refine ⟨?_, hP.on hb2, hb2⟩
  have hx : (s.unl L0[m]).nd L0[m] = lone (s.nd L0[m]) := unl_self _ _
  rw [hx]
  show _ = Ending.returned (.tuple #[.agg #[.int .u32 (s0.nd L0[m]).idx, .int .u32 (s0.nd L0[m]).life], .bool true])
  rw [← g2, ← g3]
  rfl
set_option maxHeartbeats 1000000 in
set_option maxRecDepth 100000 in
theorem pop_some {base : Nat} {w : World} {A Q room : Nat} {s : ArS} {L F : List Nat} (h : Mq base w A Q room s L F) (hr : room ≤ 65536) {b : Nat} (hf : fst s.nd L = some b) :
    ∃ m, ∃ hm : m < L.length, L[m] = b ∧ liv s.nd (L.take m) = [] ∧ dds s.nd (L.take m) = m ∧ Calls Try.prog 29 #[.pointer (some ⟨Q, 0, none⟩)] w fun e w' => e = .returned (.tuple #[.agg #[.int .u32 (s.nd b).idx, .int .u32 (s.nd b).life], .bool true]) ∧ Po base w A Q room s L m w' := by
  obtain ⟨m, hm, e1, e2, e3⟩ := fst_index hf
  refine ⟨m, hm, e1, e2, e3, ?_⟩
  have hc : w.cell? ⟨Q, 3, none⟩ = some (.pointer (some ⟨b, 0, none⟩)) := by rw [row_cell h.aq.qr 3]; simp [qrow, qsOf, hf, pb]
  have hQ : Q < w.heap.size := row_lt h.aq.qr
  have hne : ¬ Q = w.heap.size := by omega
  have BU := hid (bury_any (h.on (ball w (.cells #[.int .u32 0, .int .u32 0] 34))) hr m (Nat.le_of_lt hm) (.pointer (some ⟨b, 0, none⟩)) (by rw [List.getElem?_eq_getElem hm, e1]; rfl))
  have PO := hid (show ∀ w', Bu base (w.alloc (.cells #[.int .u32 0, .int .u32 0] 34)) A Q room s L m w' → _ from fun w' hb => hb.pop hr hm e2 e3)
  have HLO := hid h.aq.low2
  rw [e1] at PO
  clear h hf e1 e2 e3
  go_enter Try.func29, Try.ntmps29
  go_wp2_with (first | (go_at_call 74; refine (BU.out).mono ?_; rintro e w1 ⟨rfl, hb⟩; have HZ := hid (hb.kp.blk _ _ _ (heap_alloc_new w (.cells #[.int .u32 0, .int .u32 0] 34)) n34 (by decide)); have UL := hid (PO.out _ hb); clear hb; refine Hid.out ?_))
  refine hid ?_
  go_wp2_with (first | (go_at_call 73; refine (UL.out).mono ?_; rintro e w2 ⟨rfl, hp, hn⟩; have HZ2 := hid (hp.kq.blk _ _ _ (heap_alloc_new w (.cells #[.int .u32 0, .int .u32 0] 34)) n34 (by decide)); have HN := hid hn; clear hp hn; refine Hid.out ?_))
  refine hid ?_
  go_wp2_with (first | (go_at_call 75; refine (HN.out).mono ?_; rintro e w3 ⟨rfl, hp, hb3⟩; have HP := hid hp; have hz := row_on HZ2.out hb3; have z0 := row_cell hz 0; have z1 := row_cell hz 1; have zf0 := frozen_of_row w3 w.heap.size 0 _ _ hz; have zf1 := frozen_of_row w3 w.heap.size 1 _ _ hz; simp only [List.getElem?_toArray, List.getElem?_cons_zero, List.getElem?_cons_succ] at z0 z1; have HZ3 := hid hz; clear hp hz hb3; refine Hid.out ?_))
  refine hid ?_
  go_wp2
  refine bodyPost_ret (res34 Try.f29 2 3 Try.results29 _ _ w.heap.size _ _ _ (by rfl) (by rfl) (st34 HZ3.out _ _) info34) rfl ⟨rfl, ?_⟩
  exact HP.out.box HZ3.out hne HLO.out _ _
/-- a node made dead. -/
def ArS.mark (s : ArS) (b : Nat) : ArS := { s with nd := upd s.nd b { s.nd b with dd := true } }
theorem Pq.mark {Q room : Nat} {s : ArS} {L F : List Nat} (h : Pq Q room s L F) {b : Nat} (hb : b ∈ L) : Pq Q room (s.mark b) L F := by
  have hx : ∀ x, ((s.mark b).nd x).ah = (s.nd x).ah ∧ ((s.mark b).nd x).be = (s.nd x).be ∧ ((s.mark b).nd x).q = (s.nd x).q ∧ ((s.mark b).nd x).tk = (s.nd x).tk := by
    intro x
    by_cases e : x = b
    · subst e; simp [ArS.mark, upd_same]
    · simp [ArS.mark, upd_other _ _ _ _ e]
  refine ⟨fun i hi => ?_, h.nod, fun x hxL => ?_, Ch.congr (fun x _ => (hx x).2.1) h.ch, h.fnod, fun x hF => ?_, fun x hxb hxL => ?_, h.rm, h.len, h.cap, h.lt⟩
  · rw [(hx _).1, (hx _).2.1]; exact h.lk i hi
  · rw [(hx x).2.2.1, (hx x).2.2.2]; exact h.mem x hxL
  · rw [(hx x).2.2.2]; exact h.fre x hF
  · have e : ¬ x = b := fun e => hxL (e ▸ hb)
    have e2 : (s.mark b).nd x = s.nd x := upd_other _ _ _ _ e
    rw [e2]
    exact h.oth x hxb hxL
theorem lvs_app (nd : Nat → Nd) (a b : List Nat) : lvs nd (a ++ b) = lvs nd a + lvs nd b := by unfold lvs; rw [List.filter_append, List.length_append]
theorem dds_app (nd : Nat → Nd) (a b : List Nat) : dds nd (a ++ b) = dds nd a + dds nd b := by unfold dds; rw [List.filter_append, List.length_append]
theorem lvs_cons (nd : Nat → Nd) (x : Nat) (b : List Nat) : lvs nd (x :: b) = (if (nd x).dd = true then 0 else 1) + lvs nd b := by
  unfold lvs
  rw [List.filter_cons]
  cases h : (nd x).dd <;> simp <;> omega
theorem dds_cons (nd : Nat → Nd) (x : Nat) (b : List Nat) : dds nd (x :: b) = (if (nd x).dd = true then 1 else 0) + dds nd b := by
  unfold dds
  rw [List.filter_cons]
  cases h : (nd x).dd <;> simp <;> omega
theorem qs_mark {nd : Nat → Nd} {L : List Nat} (hn : L.Nodup) {k : Nat} (hk : k < L.length) (hd : (nd L[k]).dd = false) (nd' : Nat → Nd) (hnd : nd' = upd nd L[k] { nd L[k] with dd := true }) :
    qsOf nd' L = { fr := L.head?, bk := L.getLast?, fi := if fst nd L = some L[k] then fst nd' (L.drop (k + 1)) else fst nd L, lv := lvs nd L - 1, dd := dds nd L + 1 } ∧ 1 ≤ lvs nd L := by
  subst hnd
  obtain ⟨hp1, hp2⟩ := erase_parts hk
  obtain ⟨b, hb⟩ : ∃ b, L[k] = b := ⟨_, rfl⟩
  rw [hb] at hp1 hd ⊢
  have hn2 := hn
  rw [hp1, List.nodup_append, List.nodup_cons] at hn2
  have ht : ∀ x ∈ L.take k, (upd nd b { nd b with dd := true } x).dd = (nd x).dd := fun x hx => by
    rw [upd_other _ _ _ _ (fun e => hn2.2.2 _ hx _ List.mem_cons_self e)]
  have hr : ∀ x ∈ L.drop (k + 1), (upd nd b { nd b with dd := true } x).dd = (nd x).dd := fun x hx => by
    rw [upd_other _ _ _ _ (show ¬ x = b from fun e => hn2.2.1.1 (e ▸ hx))]
  have hbd : (upd nd b { nd b with dd := true } b).dd = true := by rw [upd_same]
  have hf1 : fst (upd nd b { nd b with dd := true }) L = (fst nd (L.take k)).or (fst nd (L.drop (k + 1))) := by
    conv => lhs; rw [hp1]
    rw [fst_app, fst_cons_dead hbd, fst_congr ht, fst_congr hr]
  have hf2 : fst nd L = (fst nd (L.take k)).or (some b) := by
    conv => lhs; rw [hp1]
    rw [fst_app, fst_cons_live hd]
  have hc1 := cnt_congr ht
  have hc2 := cnt_congr hr
  have hl : lvs (upd nd b { nd b with dd := true }) L + 1 = lvs nd L := by
    conv => lhs; rw [hp1]
    conv => rhs; rw [hp1]
    rw [lvs_app, lvs_cons, lvs_app, lvs_cons, hbd, hd, hc1.1, hc2.1]
    simp
    omega
  have hdc : dds (upd nd b { nd b with dd := true }) L = dds nd L + 1 := by
    conv => lhs; rw [hp1]
    conv => rhs; rw [hp1]
    rw [dds_app, dds_cons, dds_app, dds_cons, hbd, hd, hc1.2, hc2.2]
    simp
    omega
  refine ⟨?_, by omega⟩
  unfold qsOf
  have hfi : fst (upd nd b { nd b with dd := true }) L = if fst nd L = some b then fst (upd nd b { nd b with dd := true }) (L.drop (k + 1)) else fst nd L := by
    rw [hf1, hf2]
    cases hh : fst nd (L.take k) with
    | none => simp [fst_congr hr]
    | some y =>
      have : ¬ y = b := by
        rintro rfl
        exact hn2.2.2 _ (fst_mem hh).1 _ List.mem_cons_self rfl
      simp [this]
  rw [hfi, hdc, ← hl]
  simp
end Go.Proofs.Ytecalelfofgfpaa
