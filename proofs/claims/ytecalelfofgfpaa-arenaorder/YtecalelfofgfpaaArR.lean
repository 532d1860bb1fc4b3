/-
  Mark, Push.
-/
import Derived.Test.YtecalelfofgfpaaArQ
namespace Go.Proofs.Ytecalelfofgfpaa
open Go.RowKit Go.Deep
set_option linter.unusedVariables false
set_option linter.unusedSimpArgs false

theorem Mq.markPass {base : Nat} {w2 : World} {A Q room : Nat} {s : ArS} {L F : List Nat} (h : Pq Q room s L F) {k : Nat} (hk : k < L.length) (hd : (s.nd L[k]).dd = false)
    (ha : AQ base w2 A Q (s.mark L[k]) { fr := L.head?, bk := L.getLast?, fi := fst s.nd L, lv := lvs s.nd L - 1, dd := dds s.nd L + 1 }) :
    Calls Try.prog 72 #[.pointer (some ⟨Q, 0, none⟩), .pointer (some ⟨L[k], 0, none⟩)] w2 fun e w' => e = .returned (.tuple #[]) ∧ Mq base w' A Q room (s.mark L[k]) L F ∧ Kq base w2 w' := by
  have hbL := List.getElem_mem hk
  have hp := h.mark hbL
  have hq := (qs_mark h.nod hk hd (s.mark L[k]).nd rfl).1
  by_cases hf : fst s.nd L = some L[k]
  · refine (pass_first ha (hp.mem _ hbL).1 (hp.lk.ch k hk) (fun x hx => (hp.mem x (List.mem_of_mem_drop hx)).1) (List.Nodup.sublist (List.drop_sublist _ _) hp.nod) hf).mono ?_
    rintro e w' ⟨rfl, h1, h2⟩
    refine ⟨rfl, ⟨?_, hp⟩, h2⟩
    rw [hq, if_pos hf]
    exact h1
  · refine (pass_other ha (hp.mem _ hbL).1 hf (fun y hy => (hp.mem y (fst_mem hy).1).1)).mono ?_
    rintro e w' ⟨rfl, rfl⟩
    refine ⟨rfl, ⟨?_, hp⟩, Kq.refl _ _⟩
    rw [hq, if_neg hf]
    exact ha
set_option maxHeartbeats 1000000 in
set_option maxRecDepth 100000 in
theorem mark_any {base : Nat} {w : World} {A Q room : Nat} {s : ArS} {L F : List Nat} (h : Mq base w A Q room s L F) (hr : room ≤ 65536) {k : Nat} (hk : k < L.length) (hd : (s.nd L[k]).dd = false) (i l : Nat) (hat : s.at i l = some L[k]) :
    Calls Try.prog 26 #[.pointer (some ⟨Q, 0, none⟩), .agg #[.int .u32 i, .int .u32 l]] w fun e w' => e = .returned (.int .i64 0) ∧ Mq base w' A Q room (s.mark L[k]) L F ∧ Kq base w w' := by
  have hbL := List.getElem_mem hk
  have hbm := (h.pq.mem _ hbL).1
  have FI := hid (qfind_any (h.aq.on (ball w (.cells #[.int .u32 i, .int .u32 l] 34))) (h.pq.small hr) i l L[k] hat (h.pq.mem _ hbL).2.1)
  have hl1 := (qs_mark h.pq.nod hk hd (s.mark L[k]).nd rfl).2
  have hl2 := lvs_dds s.nd L
  have hl3 := h.pq.room_le
  have MP := hid (show ∀ w2, AQ base w2 A Q (s.mark L[k]) { fr := L.head?, bk := L.getLast?, fi := fst s.nd L, lv := lvs s.nd L - 1, dd := dds s.nd L + 1 } → _ from fun w2 ha => Mq.markPass h.pq hk hd ha)
  have HH := hid h
  obtain ⟨b, hb⟩ : ∃ b, L[k] = b := ⟨_, rfl⟩
  rw [hb] at FI MP hbm hd ⊢
  obtain ⟨lv, hlv⟩ : ∃ lv, lvs s.nd L = lv := ⟨_, rfl⟩
  obtain ⟨dn, hdn⟩ : ∃ dn, dds s.nd L = dn := ⟨_, rfl⟩
  rw [hlv, hdn] at MP hl2
  rw [hlv] at hl1
  have i1 : (1 : Int) ≤ (lv : Int) := by omega
  have i2 : (lv : Int) ≤ 65536 := by omega
  have i3 : (dn : Int) ≤ 65536 := by omega
  have i4 : (0 : Int) ≤ (dn : Int) := by omega
  clear h hat hbL hb hl2 hl3
  go_enter Try.func26, Try.ntmps26
  go_wp2_with (first | (go_at_call 71; refine (FI.out).mono ?_; rintro e w1 ⟨rfl, hb⟩; have HB := hid (btr (ball w _) hb); clear hb; refine Hid.out ?_))
  have h1 := HH.out.on HB.out
  have hn := (h1.aq.ar.node hbm).2
  have hQ := h1.aq.qr
  have nQb := h1.aq.neN hbm
  have nbQ : ¬ b = Q := fun e => nQb e.symm
  obtain ⟨a1, k1⟩ := h1.aq.setNode hbm 5 (.bool true) { s.nd b with dd := true } (by simp [nrow]) rfl
  obtain ⟨a2, k2⟩ := a1.setQ 4 (.int .i64 ((lv : Int) - 1)) { qsOf s.nd L with lv := lvs s.nd L - 1 } (by simp [qrow, qsOf, hlv]; omega)
  obtain ⟨a3, k3⟩ := a2.setQ 5 (.int .i64 ((dn : Int) + 1)) { qsOf s.nd L with lv := lvs s.nd L - 1, dd := dds s.nd L + 1 } (by simp [qrow, qsOf, hdn])
  have HK := hid (((Kq.of HH.out.aq.low2 HB.out).trans k1).trans (k2.trans k3))
  have MP2 := hid (MP.out _ (by have := a3; rw [hlv, hdn] at this; exact this))
  have c5 : w1.cell? ⟨b, 5, none⟩ = some (.bool false) := by rw [row_cell hn 5]; simp [nrow, hd]
  have f5 : w1.frozen? ⟨b, 5, none⟩ = false := frozen_of_row w1 b 5 _ _ hn
  have q4 : w1.cell? ⟨Q, 4, none⟩ = some (.int .i64 lv) := by rw [row_cell hQ 4]; simp [qrow, qsOf, hlv]
  have q5 : w1.cell? ⟨Q, 5, none⟩ = some (.int .i64 dn) := by rw [row_cell hQ 5]; simp [qrow, qsOf, hdn]
  have g4 : w1.frozen? ⟨Q, 4, none⟩ = false := frozen_of_row w1 Q 4 _ _ hQ
  have g5 : w1.frozen? ⟨Q, 5, none⟩ = false := frozen_of_row w1 Q 5 _ _ hQ
  clear a1 a2 a3 k1 k2 k3 hn hQ h1 hlv hdn hd hbm FI MP
  refine hid ?_
  go_wp2_with (first | (go_at_call 72; refine (MP2.out).mono ?_; rintro e w2 ⟨rfl, h1, h2⟩; have H1 := hid h1; have H2 := hid h2; clear h1 h2; refine Hid.out ?_))
  refine hid ?_
  go_wp2
  go_ret
  exact ⟨rfl, H1.out, HK.out.trans H2.out⟩
/-- one behind all. -/
def ArS.push (s : ArS) (Q : Nat) (L : List Nat) (b : Nat) : ArS := { s with nd := setBe (upd s.nd b { s.nd b with q := some Q, ah := L.getLast? }) L.getLast? (some b) }
theorem push_self {s : ArS} {Q : Nat} {L : List Nat} {b : Nat} (hb : b ∉ L) : (s.push Q L b).nd b = { s.nd b with q := some Q, ah := L.getLast? } := by
  unfold ArS.push setBe
  cases h : L.getLast? with
  | none => simp [upd_same]
  | some x =>
    have hx : ¬ b = x := by
      rintro rfl
      exact hb (List.mem_of_getLast? h)
    simp only
    rw [upd_other _ _ _ _ hx, upd_same]
theorem push_other {s : ArS} {Q : Nat} {L : List Nat} {b x : Nat} (hb : b ∉ L) (hx : ¬ x = b) : (s.push Q L b).nd x = { s.nd x with be := if L.getLast? = some x then some b else (s.nd x).be } := by
  unfold ArS.push setBe
  cases h : L.getLast? with
  | none => simp [upd_other _ _ _ _ hx]
  | some y =>
    have hy : ¬ y = b := by
      rintro rfl
      exact hb (List.mem_of_getLast? h)
    simp only
    by_cases e : x = y
    · subst e
      rw [upd_same, upd_other _ _ _ _ hy]
      simp
    · have e' : ¬ y = x := fun h => e h.symm
      rw [upd_other _ _ _ _ e, upd_other _ _ _ _ hx]
      simp [e']
theorem Pq.push {Q room : Nat} {s : ArS} {L F : List Nat} (h : Pq Q room s L F) {b : Nat} (hb : b ∈ s.bs) (hL : b ∉ L) (hF : b ∉ F) (ht : L.length + 1 ≤ s.tk) : Pq Q room (s.push Q L b) (L ++ [b]) F := by
  obtain ⟨o1, o2, o3⟩ := h.oth b hb hL
  obtain ⟨o4, o5⟩ := o3 hF
  have hne : ∀ x ∈ L, ¬ x = b := fun x hx e => hL (e ▸ hx)
  have hlast : L.getLast? = L[L.length - 1]? := List.getLast?_eq_getElem?
  refine ⟨?_, ?_, ?_, ?_, h.fnod, ?_, ?_, h.rm, h.len, h.cap, ?_⟩
  · intro i hi
    by_cases hil : i < L.length
    · rw [List.getElem_append_left hil, push_other hL (hne _ (List.getElem_mem hil))]
      obtain ⟨l1, l2⟩ := h.lk i hil
      constructor
      · show (s.nd L[i]).ah = _
        rw [l1]
        unfold bef
        by_cases h0 : i = 0
        · rw [if_pos h0, if_pos h0]
        · rw [if_neg h0, if_neg h0, List.getElem?_append_left (by omega)]
      · show (if L.getLast? = some L[i] then some b else (s.nd L[i]).be) = _
        by_cases hl : i + 1 = L.length
        · rw [if_pos, List.getElem?_append_right (by omega)]
          · simp [show i + 1 - L.length = 0 by omega]
          · rw [hlast, show L.length - 1 = i by omega]
            exact List.getElem?_eq_getElem hil
        · rw [if_neg, l2, List.getElem?_append_left (by omega)]
          intro e
          rw [hlast] at e
          have := nodup_get h.nod e (List.getElem?_eq_getElem hil)
          omega
    · have hi2 : i = L.length := by simp at hi; omega
      subst hi2
      rw [List.getElem_append_right (Nat.le_refl _)]
      simp only [Nat.sub_self, List.getElem_cons_zero]
      rw [push_self hL]
      constructor
      · show L.getLast? = _
        unfold bef
        by_cases h0 : L.length = 0
        · rw [if_pos h0, hlast, List.getElem?_eq_none (by omega)]
        · rw [if_neg h0, List.getElem?_append_left (by omega), hlast]
      · show (s.nd b).be = _
        rw [o5, List.getElem?_eq_none (by simp)]
  · rw [List.nodup_append]
    exact ⟨h.nod, by simp, fun x hx y hy => by simp at hy; subst hy; exact hne x hx⟩
  · intro x hx
    rcases List.mem_append.1 hx with hx | hx
    · rw [push_other hL (hne x hx)]
      exact h.mem x hx
    · simp at hx
      subst hx
      rw [push_self hL]
      exact ⟨hb, rfl, o4⟩
  · refine Ch.congr (fun x hx => ?_) h.ch
    have hxb : ¬ x = b := fun e => hF (e ▸ hx)
    rw [push_other hL hxb]
    show (if L.getLast? = some x then some b else _) = _
    rw [if_neg]
    intro e
    exact h.disj (List.mem_of_getLast? e) hx
  · intro x hx
    have hxb : ¬ x = b := fun e => hF (e ▸ hx)
    rw [push_other hL hxb]
    exact h.fre x hx
  · intro x hxb hxL
    have hx1 : x ∉ L := fun hh => hxL (List.mem_append_left _ hh)
    have hx2 : ¬ x = b := fun e => hxL (by rw [e]; simp)
    obtain ⟨p1, p2, p3⟩ := h.oth x hxb hx1
    rw [push_other hL hx2]
    refine ⟨p1, p2, fun hh => ⟨(p3 hh).1, ?_⟩⟩
    show (if L.getLast? = some x then some b else _) = _
    rw [if_neg]
    · exact (p3 hh).2
    · intro e; exact hx1 (List.mem_of_getLast? e)
  · simp; exact ht
theorem qs_push {Q : Nat} {s : ArS} {L : List Nat} {b : Nat} (hL : b ∉ L) (hd : (s.nd b).dd = false) :
    qsOf (s.push Q L b).nd (L ++ [b]) = { fr := if L.getLast? = none then some b else L.head?, bk := some b, fi := if fst s.nd L = none then some b else fst s.nd L, lv := lvs s.nd L + 1, dd := dds s.nd L } := by
  have hc : ∀ x ∈ L, ((s.push Q L b).nd x).dd = (s.nd x).dd := fun x hx => by rw [push_other hL (fun e => hL (e ▸ hx))]
  have hb : ((s.push Q L b).nd b).dd = false := by rw [push_self hL]; exact hd
  unfold qsOf
  rw [fst_app, fst_congr hc, fst_cons_live hb, lvs_app, lvs_cons, dds_app, dds_cons, (cnt_congr hc).1, (cnt_congr hc).2, hb]
  cases L with
  | nil => simp [lvs, dds, fst]
  | cons c L =>
    have h1 : ((c :: L) ++ [b]).getLast? = some b := by rw [List.getLast?_append]; rfl
    have h2 : ¬ (c :: L).getLast? = none := by simp
    rw [h1, if_neg h2]
    congr 1
    cases fst s.nd (c :: L) <;> simp
end Go.Proofs.Ytecalelfofgfpaa
