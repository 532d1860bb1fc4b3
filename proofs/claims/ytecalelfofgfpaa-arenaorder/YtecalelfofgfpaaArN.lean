/-
  An arena with one queue: what stands between two calls; one that is taken out, dropped, taken.
-/
import Derived.Test.YtecalelfofgfpaaArM
namespace Go.Proofs.Ytecalelfofgfpaa
open Go.RowKit Go.Deep
set_option linter.unusedVariables false
set_option linter.unusedSimpArgs false

structure Pq (Q room : Nat) (s : ArS) (L F : List Nat) : Prop where
  lk : Lk s.nd L
  nod : L.Nodup
  mem : ∀ b ∈ L, b ∈ s.bs ∧ (s.nd b).q = some Q ∧ (s.nd b).tk = true
  ch : Ch s.nd s.fr F
  fnod : F.Nodup
  fre : ∀ b ∈ F, b ∈ s.bs ∧ (s.nd b).tk = false
  oth : ∀ b ∈ s.bs, b ∉ L → (s.nd b).q = none ∧ (s.nd b).dd = false ∧ (b ∉ F → (s.nd b).tk = true ∧ (s.nd b).be = none)
  rm : s.room = room
  len : s.bs.length = s.tk + F.length
  cap : s.bs.length ≤ room
  lt : L.length ≤ s.tk
theorem Ch.congr {nd nd' : Nat → Nd} : ∀ {F : List Nat} {fr : Option Nat}, (∀ x ∈ F, (nd' x).be = (nd x).be) → Ch nd fr F → Ch nd' fr F
  | [], none, _, h => h
  | [], some _, _, h => h
  | _ :: _, none, _, h => h
  | c :: F, some d, he, h => by
    obtain ⟨rfl, h2⟩ := h
    refine ⟨rfl, ?_⟩
    rw [he d List.mem_cons_self]
    exact Ch.congr (fun x hx => he x (List.mem_cons_of_mem _ hx)) h2
theorem Pq.disj {Q room : Nat} {s : ArS} {L F : List Nat} (h : Pq Q room s L F) {b : Nat} (hL : b ∈ L) (hF : b ∈ F) : False := by
  have h1 := (h.mem b hL).2.2
  rw [(h.fre b hF).2] at h1
  simp at h1
theorem mem_erase {L : List Nat} {k : Nat} (hk : k < L.length) (hn : L.Nodup) {x : Nat} : x ∈ L.eraseIdx k ↔ x ∈ L ∧ ¬ x = L[k] := by
  obtain ⟨hp1, hp2⟩ := erase_parts hk
  obtain ⟨b, hb⟩ : ∃ b, L[k] = b := ⟨_, rfl⟩
  rw [hb] at hp1 ⊢
  have hn2 := hn
  rw [hp1, List.nodup_append, List.nodup_cons] at hn2
  rw [hp2]
  constructor
  · intro hx
    refine ⟨?_, ?_⟩
    · rw [hp1]
      rcases List.mem_append.1 hx with hx | hx
      · exact List.mem_append_left _ hx
      · exact List.mem_append_right _ (List.mem_cons_of_mem _ hx)
    · rintro rfl
      rcases List.mem_append.1 hx with hx | hx
      · exact hn2.2.2 _ hx _ List.mem_cons_self rfl
      · exact hn2.2.1.1 hx
  · rintro ⟨hx, hne⟩
    rw [hp1] at hx
    rcases List.mem_append.1 hx with hx | hx
    · exact List.mem_append_left _ hx
    · rcases List.mem_cons.1 hx with hx | hx
      · exact absurd hx hne
      · exact List.mem_append_right _ hx
/-- one out of the queue. -/
def ArS.unl (s : ArS) (b : Nat) : ArS := { s with nd := Go.Proofs.Ytecalelfofgfpaa.unl s.nd b }
theorem Pq.out {Q room : Nat} {s : ArS} {L F : List Nat} (h : Pq Q room s L F) {k : Nat} (hk : k < L.length) : Pq Q room (s.unl L[k]) (L.eraseIdx k) F := by
  have hap := h.lk.apart h.nod hk
  have hbL := List.getElem_mem hk
  have hne := fun x => h.lk.ne h.nod hk (x := x)
  have hbe : ∀ x, x ∉ L → (unl s.nd L[k] x).be = (s.nd x).be := by
    intro x hx
    rw [unl_other s.nd L[k] x (by rintro rfl; exact hx hbL) hap]
    show (if (s.nd L[k]).ah = some x then _ else _) = _
    rw [if_neg]
    intro e
    exact hx ((hne x).1 e).1
  refine ⟨h.lk.out h.nod hk, List.Nodup.eraseIdx k h.nod, ?_, ?_, h.fnod, ?_, ?_, h.rm, h.len, h.cap, ?_⟩
  · intro x hx
    obtain ⟨h1, h2⟩ := (mem_erase hk h.nod).1 hx
    obtain ⟨e1, e2, e3, e4, e5, e6⟩ := unl_same s.nd L[k] x h2 hap
    obtain ⟨m1, m2, m3⟩ := h.mem x h1
    exact ⟨m1, e2.trans m2, e3.trans m3⟩
  · exact Ch.congr (fun x hx => hbe x (fun hL => h.disj hL hx)) h.ch
  · intro x hx
    have hxb : ¬ x = L[k] := by rintro rfl; exact h.disj hbL hx
    obtain ⟨e1, e2, e3, e4, e5, e6⟩ := unl_same s.nd L[k] x hxb hap
    exact ⟨(h.fre x hx).1, e3.trans (h.fre x hx).2⟩
  · intro x hx hxL
    by_cases hxb : x = L[k]
    · subst hxb
      show (unl s.nd L[k] L[k]).q = none ∧ (unl s.nd L[k] L[k]).dd = false ∧ (_ → (unl s.nd L[k] L[k]).tk = true ∧ (unl s.nd L[k] L[k]).be = none)
      rw [unl_self]
      exact ⟨rfl, rfl, fun _ => ⟨(h.mem _ hbL).2.2, rfl⟩⟩
    · have hxL2 : x ∉ L := fun hh => hxL ((mem_erase hk h.nod).2 ⟨hh, hxb⟩)
      obtain ⟨e1, e2, e3, e4, e5, e6⟩ := unl_same s.nd L[k] x hxb hap
      obtain ⟨o1, o2, o3⟩ := h.oth x hx hxL2
      exact ⟨e2.trans o1, e1.trans o2, fun hF => ⟨e3.trans (o3 hF).1, (hbe x hxL2).trans (o3 hF).2⟩⟩
  · rw [List.length_eraseIdx_of_lt hk]
    have := h.lt
    exact Nat.le_trans (Nat.sub_le _ _) this
theorem Pq.room_le {Q room : Nat} {s : ArS} {L F : List Nat} (h : Pq Q room s L F) : s.tk ≤ room ∧ L.length ≤ room := by
  have h1 := h.len
  have h2 := h.cap
  have h3 := h.lt
  omega
theorem lvs_pos {nd : Nat → Nd} {L : List Nat} {b : Nat} (hb : b ∈ L) (hd : (nd b).dd = false) : 1 ≤ lvs nd L := by
  unfold lvs
  exact List.length_pos_of_mem (List.mem_filter.2 ⟨hb, by simp [hd]⟩)
theorem dds_pos {nd : Nat → Nd} {L : List Nat} {b : Nat} (hb : b ∈ L) (hd : (nd b).dd = true) : 1 ≤ dds nd L := by
  unfold dds
  exact List.length_pos_of_mem (List.mem_filter.2 ⟨hb, hd⟩)
/-- an arena and its queue in memory. -/
structure Mq (base : Nat) (w : World) (A Q room : Nat) (s : ArS) (L F : List Nat) : Prop where
  aq : AQ base w A Q s (qsOf s.nd L)
  pq : Pq Q room s L F
theorem Mq.on {base : Nat} {w w' : World} {A Q room : Nat} {s : ArS} {L F : List Nat} (h : Mq base w A Q room s L F) (hb : Below w.heap.size w w') : Mq base w' A Q room s L F := ⟨h.aq.on hb, h.pq⟩
theorem Mq.pass {base : Nat} {w : World} {A Q room : Nat} {s : ArS} {L F : List Nat} (h : Mq base w A Q room s L F) {k : Nat} (hk : k < L.length) :
    Calls Try.prog 72 #[.pointer (some ⟨Q, 0, none⟩), .pointer (some ⟨L[k], 0, none⟩)] w fun e w' => e = .returned (.tuple #[]) ∧ AQ base w' A Q s { qsOf s.nd L with fi := if fst s.nd L = some L[k] then fst s.nd (L.drop (k + 1)) else fst s.nd L } ∧ Kq base w w' := by
  have hbL := List.getElem_mem hk
  by_cases hf : fst s.nd L = some L[k]
  · rw [if_pos hf]
    exact pass_first h.aq (h.pq.mem _ hbL).1 (h.pq.lk.ch k hk) (fun x hx => (h.pq.mem x (List.mem_of_mem_drop hx)).1) (List.Nodup.sublist (List.drop_sublist _ _) h.pq.nod) hf
  · rw [if_neg hf]
    refine (pass_other h.aq (h.pq.mem _ hbL).1 hf (fun y hy => (h.pq.mem y (fst_mem hy).1).1)).mono ?_
    rintro e w' ⟨rfl, rfl⟩
    exact ⟨rfl, h.aq, Kq.refl _ _⟩
theorem Mq.unlink {base : Nat} {w : World} {A Q room : Nat} {s : ArS} {L F : List Nat} (h : Mq base w A Q room s L F) (hr : room ≤ 65536) {k : Nat} (hk : k < L.length) :
    Calls Try.prog 73 #[.pointer (some ⟨Q, 0, none⟩), .pointer (some ⟨L[k], 0, none⟩)] w fun e w' => e = .returned (.tuple #[]) ∧ Mq base w' A Q room (s.unl L[k]) (L.eraseIdx k) F ∧ Kq base w w' := by
  have hbL := List.getElem_mem hk
  have hrl := h.pq.room_le
  have hcd := lvs_dds s.nd L
  have hU : Un base w A Q s (qsOf s.nd L) L[k] := by
    refine ⟨h.aq, (h.pq.mem _ hbL).1, fun x hx => ?_, fun x hx => ?_, fun x y h1 h2 e => ?_, fun hd => lvs_pos hbL hd, fun hd => dds_pos hbL hd, ?_, ?_⟩
    · obtain ⟨h1, h2⟩ := (h.pq.lk.ne h.pq.nod hk).1 hx
      exact ⟨(h.pq.mem x h1).1, h2⟩
    · obtain ⟨h1, h2⟩ := (h.pq.lk.ne h.pq.nod hk).2 hx
      exact ⟨(h.pq.mem x h1).1, h2⟩
    · subst e; exact h.pq.lk.apart h.pq.nod hk x h1 h2
    · show lvs s.nd L ≤ 65536; omega
    · show dds s.nd L ≤ 65536; omega
  refine (unlink_any hU _ (h.pass hk)).mono ?_
  rintro e w' ⟨rfl, h1, h2⟩
  refine ⟨rfl, ⟨?_, h.pq.out hk⟩, h2⟩
  show AQ base w' A Q { s with nd := unl s.nd L[k] } (qsOf (unl s.nd L[k]) (L.eraseIdx k))
  rw [qs_out h.pq.lk h.pq.nod hk]
  exact h1
/-- a loose node is given back. -/
theorem Pq.gone {Q room : Nat} {s : ArS} {L F : List Nat} (h : Pq Q room s L F) {b : Nat} (hb : b ∈ s.bs) (hL : b ∉ L) (hF : b ∉ F) (ht : L.length + 1 ≤ s.tk) : Pq Q room (s.gone b) L (b :: F) := by
  obtain ⟨o1, o2, o3⟩ := h.oth b hb hL
  have hx : ∀ x, ¬ x = b → (s.gone b).nd x = s.nd x := fun x hx => upd_other _ _ _ _ hx
  have hLne : ∀ x ∈ L, ¬ x = b := fun x hxL e => hL (e ▸ hxL)
  refine ⟨?_, h.nod, ?_, ?_, List.nodup_cons.2 ⟨hF, h.fnod⟩, ?_, ?_, h.rm, ?_, h.cap, ?_⟩
  · intro i hi
    rw [hx _ (hLne _ (List.getElem_mem hi))]
    exact h.lk i hi
  · intro x hxL
    rw [hx x (hLne x hxL)]
    exact h.mem x hxL
  · show Ch _ (some b) (b :: F)
    refine ⟨rfl, ?_⟩
    have : ((s.gone b).nd b).be = s.fr := by simp [ArS.gone, upd_same]
    rw [this]
    exact Ch.congr (fun x hxF => by rw [hx x (by rintro rfl; exact hF hxF)]) h.ch
  · intro x hxF
    by_cases e : x = b
    · subst e; exact ⟨hb, by simp [ArS.gone, upd_same]⟩
    · rw [hx x e]
      rcases List.mem_cons.1 hxF with hxF | hxF
      · exact absurd hxF e
      · exact h.fre x hxF
  · intro x hxb hxL
    by_cases e : x = b
    · subst e
      refine ⟨?_, ?_, fun hh => absurd List.mem_cons_self hh⟩
      · simp [ArS.gone, upd_same, o1]
      · simp [ArS.gone, upd_same, o2]
    · rw [hx x e]
      obtain ⟨p1, p2, p3⟩ := h.oth x hxb hxL
      exact ⟨p1, p2, fun hh => p3 (fun hF2 => hh (List.mem_cons_of_mem _ hF2))⟩
  · show s.bs.length = (s.tk - 1) + (F.length + 1)
    have := h.len
    omega
  · show L.length ≤ s.tk - 1
    omega
theorem AQ.low2 {base : Nat} {w : World} {A Q : Nat} {s : ArS} {qs : QuS} (h : AQ base w A Q s qs) : base ≤ w.heap.size := h.ar.base_le
theorem qs_same {nd nd' : Nat → Nd} {L : List Nat} (h : ∀ x ∈ L, (nd' x).dd = (nd x).dd) : qsOf nd' L = qsOf nd L := by
  unfold qsOf
  rw [fst_congr h, (cnt_congr h).1, (cnt_congr h).2]
theorem AQ.setA {base : Nat} {w : World} {A Q : Nat} {s : ArS} {qs : QuS} (h : AQ base w A Q s qs) (k : Nat) (v : Value) (s' : ArS) (hs : s'.bs = s.bs ∧ s'.nd = s.nd)
    (hr : ∀ sl, (#[Value.int .i64 s.room, .int .i64 s.tk, sl, pb s.fr] : Array Value).setIfInBounds k v = #[.int .i64 s'.room, .int .i64 s'.tk, sl, pb s'.fr]) :
    AQ base (w.setCell ⟨A, k, none⟩ v) A Q s' qs ∧ Kq base w (w.setCell ⟨A, k, none⟩ v) := by
  obtain ⟨h1, h2⟩ := h.ar.setA k v s' hs hr
  refine ⟨⟨h1, h.qlow, ?_⟩, h2.kq⟩
  rw [heap_setCell_other _ _ _ _ (by show Q ≠ A; exact h.neA)]
  exact h.qr
theorem gone_setQ {base : Nat} {w : World} {A Q : Nat} {s : ArS} {qs : QuS} (h : AQ base w A Q s qs) {b : Nat} (hb : b ∈ s.bs) (t : Int) (ht : t = ((s.tk - 1 : Nat) : Int)) :
    AQ base (((((w.setCell ⟨b, 2, none⟩ (.bool false)).setCell ⟨b, 3, none⟩ (.int .i64 0)).setCell ⟨b, 7, none⟩ (pb s.fr)).setCell ⟨A, 3, none⟩ (.pointer (some ⟨b, 0, none⟩))).setCell ⟨A, 1, none⟩ (.int .i64 t)) A Q (s.gone b) qs ∧
    Kq base w (((((w.setCell ⟨b, 2, none⟩ (.bool false)).setCell ⟨b, 3, none⟩ (.int .i64 0)).setCell ⟨b, 7, none⟩ (pb s.fr)).setCell ⟨A, 3, none⟩ (.pointer (some ⟨b, 0, none⟩))).setCell ⟨A, 1, none⟩ (.int .i64 t)) := by
  subst ht
  obtain ⟨a1, k1⟩ := h.setNode hb 2 (.bool false) { s.nd b with tk := false } (by simp [nrow]) rfl
  obtain ⟨a2, k2⟩ := a1.setNode hb 3 (.int .i64 0) { s.nd b with tk := false, v := 0 } (by simp [nrow, upd_same]) (by simp [upd_same])
  obtain ⟨a3, k3⟩ := a2.setNode hb 7 (pb s.fr) { s.nd b with tk := false, v := 0, be := s.fr } (by simp [nrow, upd_same]) (by simp [upd_same])
  obtain ⟨a4, k4⟩ := a3.setA 3 (.pointer (some ⟨b, 0, none⟩)) { s with fr := some b, nd := upd s.nd b { s.nd b with tk := false, v := 0, be := s.fr } } ⟨rfl, by simp only [upd_upd]⟩ (fun sl => by simp [pb])
  obtain ⟨a5, k5⟩ := a4.setA 1 (.int .i64 ((s.tk - 1 : Nat) : Int)) (s.gone b) ⟨rfl, by simp only [ArS.gone, upd_upd]⟩ (fun sl => by simp [ArS.gone])
  exact ⟨a5, (((k1.trans k2).trans k3).trans k4).trans k5⟩
set_option maxHeartbeats 1000000 in
set_option maxRecDepth 100000 in
theorem release_q {base : Nat} {w : World} {A Q : Nat} {s : ArS} {qs : QuS} (h : AQ base w A Q s qs) {b : Nat} (hb : b ∈ s.bs) (ht : 1 ≤ s.tk) (ht2 : s.tk ≤ 65536) :
    Calls Try.prog 70 #[.pointer (some ⟨A, 0, none⟩), .pointer (some ⟨b, 0, none⟩)] w fun e w' => e = .returned (.tuple #[]) ∧ AQ base w' A Q (s.gone b) qs ∧ Kq base w w' := by
  have hnb := h.ar.node hb
  have hne := h.ar.ne hb
  have hne2 : ¬ b = A := fun e => hne e.symm
  have FIN := hid (gone_setQ h hb ((s.tk : Int) - 1) (by omega))
  obtain ⟨h0, ⟨sl, h1, h2⟩, h3, h4⟩ := h.ar
  have c2 : ∃ u, w.cell? ⟨b, 2, none⟩ = some (.bool u) := ⟨_, row_cell hnb.2 2⟩
  have c3 : ∃ u, w.cell? ⟨b, 3, none⟩ = some (.int .i64 u) := ⟨_, row_cell hnb.2 3⟩
  obtain ⟨u2, c2⟩ := c2
  obtain ⟨u3, c3⟩ := c3
  have c7 : ∃ u, w.cell? ⟨b, 7, none⟩ = some u := ⟨_, row_cell hnb.2 7⟩
  obtain ⟨u7, c7⟩ := c7
  have f2 : w.frozen? ⟨b, 2, none⟩ = false := frozen_of_row w b 2 _ _ hnb.2
  have f3 : w.frozen? ⟨b, 3, none⟩ = false := frozen_of_row w b 3 _ _ hnb.2
  have f7 : w.frozen? ⟨b, 7, none⟩ = false := frozen_of_row w b 7 _ _ hnb.2
  have d1 : w.cell? ⟨A, 1, none⟩ = some (.int .i64 s.tk) := row_cell h1 1
  have d3 : w.cell? ⟨A, 3, none⟩ = some (pb s.fr) := row_cell h1 3
  have g1 : w.frozen? ⟨A, 1, none⟩ = false := frozen_of_row w A 1 _ _ h1
  have g3 : w.frozen? ⟨A, 3, none⟩ = false := frozen_of_row w A 3 _ _ h1
  have i1 : (1 : Int) ≤ (s.tk : Int) := by omega
  have i2 : (s.tk : Int) ≤ 65536 := by omega
  clear h h1 h2 h3 h4 hnb ht ht2
  cases hfr : s.fr with
  | none =>
    rw [hfr] at d3 FIN
    simp only [pb] at d3 FIN
    clear hfr
    go_enter Try.func70, Try.ntmps70
    go_wp2
    go_end0
    exact ⟨rfl, FIN.out.1, FIN.out.2⟩
  | some f =>
    rw [hfr] at d3 FIN
    simp only [pb] at d3 FIN
    clear hfr
    go_enter Try.func70, Try.ntmps70
    go_wp2
    go_end0
    exact ⟨rfl, FIN.out.1, FIN.out.2⟩
theorem Mq.release {base : Nat} {w : World} {A Q room : Nat} {s : ArS} {L F : List Nat} (h : Mq base w A Q room s L F) (hr : room ≤ 65536) {b : Nat} (hb : b ∈ s.bs) (hL : b ∉ L) (hF : b ∉ F) (ht : L.length + 1 ≤ s.tk) :
    Calls Try.prog 70 #[.pointer (some ⟨A, 0, none⟩), .pointer (some ⟨b, 0, none⟩)] w fun e w' => e = .returned (.tuple #[]) ∧ Mq base w' A Q room (s.gone b) L (b :: F) ∧ Kq base w w' := by
  have hrl := h.pq.room_le
  have hn := (h.aq.ar.node hb).2
  have hk := h.aq
  refine (release_q h.aq hb (by omega) (by omega)).mono ?_
  rintro e w' ⟨rfl, h1, h2⟩
  refine ⟨rfl, ⟨?_, h.pq.gone hb hL hF ht⟩, h2⟩
  have : qsOf (s.gone b).nd L = qsOf s.nd L := qs_same (fun x hx => by
    show (upd s.nd b _ x).dd = _
    rw [upd_other _ _ _ _ (show ¬ x = b from fun e => hL (by rw [← e]; exact hx))])
  rw [this]
  exact h1
end Go.Proofs.Ytecalelfofgfpaa
