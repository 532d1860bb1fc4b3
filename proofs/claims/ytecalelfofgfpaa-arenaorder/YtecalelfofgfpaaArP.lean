/-
  The calls of a queue: NewQueue, Live, Dead, Remove, Sweep, named, Pop.
-/
import Derived.Test.YtecalelfofgfpaaArO
namespace Go.Proofs.Ytecalelfofgfpaa
open Go.RowKit Go.Deep
set_option linter.unusedVariables false
set_option linter.unusedSimpArgs false

set_option maxHeartbeats 400000 in
theorem newq_any {base : Nat} {w : World} {A : Nat} {s : ArS} (h : Ar base w A s) :
    Calls Try.prog 24 #[.pointer (some ⟨A, 0, none⟩)] w fun e w' => e = .returned (.pointer (some ⟨w.heap.size, 0, none⟩)) ∧ AQ base w' A w.heap.size s (qsOf s.nd []) ∧ Below w.heap.size w w' := by
  have HH := hid h
  clear h
  go_enter Try.func24, Try.ntmps24
  go_wp2
  go_ret
  refine ⟨rfl, ⟨HH.out.on (ball _ _), HH.out.base_le, ?_⟩, ball _ _⟩
  exact heap_alloc_new _ _
set_option maxHeartbeats 400000 in
theorem live_any {base : Nat} {w : World} {A Q : Nat} {s : ArS} {qs : QuS} (h : AQ base w A Q s qs) :
    Calls Try.prog 34 #[.pointer (some ⟨Q, 0, none⟩)] w fun e w' => e = .returned (.int .i64 qs.lv) ∧ w' = w := by
  have hc : w.cell? ⟨Q, 4, none⟩ = some (.int .i64 qs.lv) := row_cell h.qr 4
  clear h
  go_enter Try.func34, Try.ntmps34
  go_wp2
  go_ret
  exact ⟨rfl, rfl⟩
set_option maxHeartbeats 400000 in
theorem dead_any {base : Nat} {w : World} {A Q : Nat} {s : ArS} {qs : QuS} (h : AQ base w A Q s qs) :
    Calls Try.prog 30 #[.pointer (some ⟨Q, 0, none⟩)] w fun e w' => e = .returned (.int .i64 qs.dd) ∧ w' = w := by
  have hc : w.cell? ⟨Q, 5, none⟩ = some (.int .i64 qs.dd) := row_cell h.qr 5
  clear h
  go_enter Try.func30, Try.ntmps30
  go_wp2
  go_ret
  exact ⟨rfl, rfl⟩
theorem Pq.small {Q room : Nat} {s : ArS} {L F : List Nat} (h : Pq Q room s L F) (hr : room ≤ 65536) : s.bs.length ≤ 65536 := Nat.le_trans h.cap hr
set_option maxHeartbeats 1000000 in
set_option maxRecDepth 100000 in
theorem remove_any {base : Nat} {w : World} {A Q room : Nat} {s : ArS} {L F : List Nat} (h : Mq base w A Q room s L F) (hr : room ≤ 65536) {k : Nat} (hk : k < L.length) (i l : Nat) (hat : s.at i l = some L[k]) :
    Calls Try.prog 28 #[.pointer (some ⟨Q, 0, none⟩), .agg #[.int .u32 i, .int .u32 l]] w fun e w' => e = .returned (.int .i64 0) ∧ Mq base w' A Q room (s.unl L[k]) (L.eraseIdx k) F ∧ Kq base w w' := by
  have hbL := List.getElem_mem hk
  have FI := hid (qfind_any (h.aq.on (ball w (.cells #[.int .u32 i, .int .u32 l] 34))) (h.pq.small hr) i l L[k] hat (h.pq.mem _ hbL).2.1)
  have UL := hid (show ∀ w', Below w.heap.size w w' → Calls Try.prog 73 #[.pointer (some ⟨Q, 0, none⟩), .pointer (some ⟨L[k], 0, none⟩)] w' fun e w2 => e = .returned (.tuple #[]) ∧ Mq base w2 A Q room (s.unl L[k]) (L.eraseIdx k) F ∧ Kq base w w2 from fun w' hb => ((h.on hb).unlink hr hk).mono fun e w2 hh => ⟨hh.1, hh.2.1, (Kq.of h.aq.low2 hb).trans hh.2.2⟩)
  obtain ⟨b, hb⟩ : ∃ b, L[k] = b := ⟨_, rfl⟩
  rw [hb] at FI UL ⊢
  clear h hat hbL hb
  go_enter Try.func28, Try.ntmps28
  go_wp2_with (first | (go_at_call 71; refine (FI.out).mono ?_; rintro e w1 ⟨rfl, hb⟩; have HB := hid (btr (ball w _) hb); clear hb; refine Hid.out ?_))
  refine hid ?_
  go_wp2_with (first | (go_at_call 73; refine (UL.out _ HB.out).mono ?_; rintro e w2 ⟨rfl, h1, h2⟩; have H1 := hid h1; have H2 := hid h2; clear h1 h2; refine Hid.out ?_))
  refine hid ?_
  go_wp2
  go_ret
  exact ⟨rfl, H1.out, H2.out⟩
set_option maxHeartbeats 1000000 in
set_option maxRecDepth 100000 in
theorem sweep_any {base : Nat} {w : World} {A Q room : Nat} {s : ArS} {L F : List Nat} (h : Mq base w A Q room s L F) (hr : room ≤ 65536) :
    Calls Try.prog 31 #[.pointer (some ⟨Q, 0, none⟩)] w fun e w' => e = .returned (.int .i64 (dds s.nd L : Nat)) ∧ Bu base w A Q room s L L.length w' := by
  have hc : w.cell? ⟨Q, 5, none⟩ = some (.int .i64 (dds s.nd L : Nat)) := row_cell h.aq.qr 5
  have BU := hid (bury_any h hr L.length (Nat.le_refl _) (.pointer none) (by rw [List.getElem?_eq_none (Nat.le_refl _)]; rfl))
  clear h
  go_enter Try.func31, Try.ntmps31
  go_wp2_with (first | (go_at_call 74; refine (BU.out).mono ?_; rintro e w1 ⟨rfl, hb⟩; have HB := hid hb; clear hb; refine Hid.out ?_))
  refine hid ?_
  go_wp2
  go_ret
  exact ⟨rfl, HB.out⟩
set_option maxHeartbeats 1000000 in
set_option maxRecDepth 100000 in
/-- a node's handle. -/
theorem named_any {base : Nat} {w : World} {A : Nat} {s : ArS} (h : Ar base w A s) {b : Nat} (hb : b ∈ s.bs) :
    Calls Try.prog 75 #[.pointer (some ⟨b, 0, none⟩)] w fun e w' => e = .returned (.tuple #[.agg #[.int .u32 (s.nd b).idx, .int .u32 (s.nd b).life], .bool true]) ∧ Below w.heap.size w w' := by
  have hn := (h.node hb).2
  have c0 : w.cell? ⟨b, 0, none⟩ = some (.int .u32 (s.nd b).idx) := row_cell hn 0
  have c1 : w.cell? ⟨b, 1, none⟩ = some (.int .u32 (s.nd b).life) := row_cell hn 1
  have hbl : b < w.heap.size := row_lt hn
  have hne : ¬ b = w.heap.size := by omega
  clear h hb hn
  go_enter Try.func75, Try.ntmps75
  go_wp2
  first
  | exact bodyPost_ret (res34 Try.f75 2 3 Try.results75 _ _ w.heap.size _ _ _ (by rfl) (by rfl) (heap_alloc_new _ _) info34) rfl ⟨rfl, ball _ _⟩
  | exact bodyPost_ret (res34 Try.f75 2 3 Try.results75 _ _ w.heap.size _ _ _ (by rfl) (by rfl) (st34 (heap_alloc_new _ _) _ _) info34) rfl ⟨rfl, ((ball _ _).setCell (Nat.le_refl _) _).setCell (Nat.le_refl _) _⟩
theorem fst_index {nd : Nat → Nd} : ∀ {L : List Nat} {b : Nat}, fst nd L = some b → ∃ m, ∃ h : m < L.length, L[m] = b ∧ liv nd (L.take m) = [] ∧ dds nd (L.take m) = m
  | [], b, h => by simp [fst] at h
  | c :: L, b, h => by
    cases hd : (nd c).dd with
    | false =>
      rw [fst_cons_live hd] at h
      obtain rfl := Option.some.inj h
      exact ⟨0, by simp, rfl, rfl, rfl⟩
    | true =>
      rw [fst_cons_dead hd] at h
      obtain ⟨m, hm, e1, e2, e3⟩ := fst_index h
      refine ⟨m + 1, by simpa using hm, by simpa using e1, ?_, ?_⟩
      · unfold liv at e2 ⊢; simp [hd, e2]
      · unfold dds at e3 ⊢; simp [hd, e3]
set_option maxHeartbeats 1000000 in
set_option maxRecDepth 100000 in
theorem pop_none {base : Nat} {w : World} {A Q room : Nat} {s : ArS} {L F : List Nat} (h : Mq base w A Q room s L F) (hf : fst s.nd L = none) :
    Calls Try.prog 29 #[.pointer (some ⟨Q, 0, none⟩)] w fun e w' => e = .returned (.tuple #[.agg #[.int .u32 0, .int .u32 0], .bool false]) ∧ Below w.heap.size w w' := by
  have hc : w.cell? ⟨Q, 3, none⟩ = some (.pointer none) := by rw [row_cell h.aq.qr 3]; simp [qrow, qsOf, hf, pb]
  have hQ : Q < w.heap.size := row_lt h.aq.qr
  have hne : ¬ Q = w.heap.size := by omega
  clear h hf
  go_enter Try.func29, Try.ntmps29
  go_wp2
  first
  | exact bodyPost_ret (res34 Try.f29 2 3 Try.results29 _ _ w.heap.size _ _ _ (by rfl) (by rfl) (heap_alloc_new _ _) info34) rfl ⟨rfl, ball _ _⟩
  | exact bodyPost_ret (res34 Try.f29 2 3 Try.results29 _ _ w.heap.size _ _ _ (by rfl) (by rfl) (st34 (heap_alloc_new _ _) _ _) info34) rfl ⟨rfl, ((ball _ _).setCell (Nat.le_refl _) _).setCell (Nat.le_refl _) _⟩
end Go.Proofs.Ytecalelfofgfpaa
