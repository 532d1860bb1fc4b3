/-
  Push, in memory; a node that is taken.
-/
import Derived.Test.YtecalelfofgfpaaArR
namespace Go.Proofs.Ytecalelfofgfpaa
open Go.RowKit Go.Deep
set_option linter.unusedVariables false
set_option linter.unusedSimpArgs false

set_option maxHeartbeats 1000000 in
set_option maxRecDepth 100000 in
theorem push_n {base : Nat} {w : World} {A Q room : Nat} {s : ArS} {L F : List Nat} (h : Mq base w A Q room s L F) (hr : room ≤ 65536) (i l b : Nat) (hat : s.at i l = some b) (hL : b ∉ L) (hF : b ∉ F) (ht : L.length + 1 ≤ s.tk) (hla : L.getLast? = none) (hfi : fst s.nd L = none) :
    Calls Try.prog 25 #[.pointer (some ⟨Q, 0, none⟩), .agg #[.int .u32 i, .int .u32 l]] w fun e w' => e = .returned (.int .i64 0) ∧ Mq base w' A Q room (s.push Q L b) (L ++ [b]) F ∧ Kq base w w' := by
  have hm := (ArS.at_mem hat).1
  obtain ⟨o1, o2, o3⟩ := h.pq.oth b hm hL
  have FI := hid (show ∀ w', Below w.heap.size w w' → Calls Try.prog 68 #[.pointer (some ⟨A, 0, none⟩), .agg #[.int .u32 i, .int .u32 l]] w' fun e w2 => e = .returned (.pointer (some ⟨b, 0, none⟩)) ∧ Below w'.heap.size w' w2 from fun w' hb => by
    have := find_any (h.aq.ar.on hb) (h.pq.small hr) i l
    rw [hat] at this
    exact this)
  have HB1 := hid (show Below w.heap.size w (w.alloc (.cells #[.int .u32 i, .int .u32 l] 34)).drew from btr (ball w _) (below_drews rfl rfl rfl rfl))
  have q0 : w.cell? ⟨Q, 0, none⟩ = some (.pointer (some ⟨A, 0, none⟩)) := row_cell h.aq.qr 0
  have hQ : Q < w.heap.size := row_lt h.aq.qr
  have PP := hid (h.pq.push hm hL hF ht)
  have QP := hid (qs_push (Q := Q) hL o2)
  have hrl := h.pq.room_le
  have hld := lvs_dds s.nd L
  have i1 : ((lvs s.nd L : Nat) : Int) ≤ 65536 := by omega
  have i2 : (0 : Int) ≤ ((lvs s.nd L : Nat) : Int) := by omega
  have HH := hid h
  have HM := hid hm
  have HLA := hid hla
  have HFI := hid hfi
  have HO := hid o1
  have FA := hid (show ∀ w4, Below w.heap.size w w4 → AQ base w4 A Q s (qsOf s.nd L) from fun w4 hb => h.aq.on hb)
  clear h hat hL hF ht hm o1 o2 o3 hla hfi hrl hld
  go_enter Try.func25, Try.ntmps25
  go_wp2
  rename_i K1 A1
  have HA1 := hid A1
  clear A1
  go_region_with (first | (go_at_call 68; refine (FI.out _ HB1.out).mono ?_; rintro e w4 ⟨rfl, hb⟩; have HB4 := hid (btr HB1.out hb); clear hb; have C4 : w4.cell? ⟨b, 4, none⟩ = some (.pointer none) := (by rw [row_cell ((FA.out _ HB4.out).ar.node HM.out).2 4]; simp [nrow, HO.out, pb])))
  all_goals
    have aq := FA.out _ HB4.out
    have hn := (aq.ar.node HM.out).2
    have hq := aq.qr
    have nQb := aq.neN HM.out
    have nbQ : ¬ b = Q := fun e => nQb e.symm
    obtain ⟨a1, k1⟩ := aq.setNode HM.out 4 (.pointer (some ⟨Q, 0, none⟩)) { s.nd b with q := some Q } (by simp [nrow, pb]) rfl
    obtain ⟨a2, k2⟩ := a1.setNode HM.out 6 (.pointer none) { s.nd b with q := some Q, ah := none } (by simp [nrow, pb, upd_same]) (by simp [upd_same])
    obtain ⟨a3, k3⟩ := a2.setQ 1 (.pointer (some ⟨b, 0, none⟩)) { qsOf s.nd L with fr := some b } (by simp [qrow, qsOf, pb])
    obtain ⟨a4, k4⟩ := a3.setQ 2 (.pointer (some ⟨b, 0, none⟩)) { qsOf s.nd L with fr := some b, bk := some b } (by simp [qrow, qsOf, pb])
    obtain ⟨a5, k5⟩ := a4.setQ 3 (.pointer (some ⟨b, 0, none⟩)) { qsOf s.nd L with fr := some b, bk := some b, fi := some b } (by simp [qrow, qsOf, pb])
    obtain ⟨a6, k6⟩ := a5.setQ 4 (.int .i64 ((lvs s.nd L : Int) + 1)) { qsOf s.nd L with fr := some b, bk := some b, fi := some b, lv := lvs s.nd L + 1 } (by simp [qrow, qsOf])
    have hs : (s.push Q L b) = { s with nd := upd s.nd b { s.nd b with q := some Q, ah := none } } := by unfold ArS.push setBe; rw [HLA.out]; try rfl
    have hqq : qsOf (s.push Q L b).nd (L ++ [b]) = { qsOf s.nd L with fr := some b, bk := some b, fi := some b, lv := lvs s.nd L + 1 } := by rw [QP.out, HLA.out, HFI.out]; simp [qsOf, HLA.out, HFI.out]
    have FIN := hid (show AQ base _ A Q (s.push Q L b) (qsOf (s.push Q L b).nd (L ++ [b])) from by rw [hqq, hs]; simpa only [upd_upd] using a6)
    have FK := hid ((Kq.of HH.out.aq.low2 HB4.out).trans (((((k1.trans k2).trans k3).trans k4).trans k5).trans k6))
    have f4 : w4.frozen? ⟨b, 4, none⟩ = false := frozen_of_row w4 b 4 _ _ hn
    have c6 : ∃ u, w4.cell? ⟨b, 6, none⟩ = some u := ⟨_, row_cell hn 6⟩
    obtain ⟨u6, c6⟩ := c6
    have f6 : w4.frozen? ⟨b, 6, none⟩ = false := frozen_of_row w4 b 6 _ _ hn
    have q2 : w4.cell? ⟨Q, 2, none⟩ = some (.pointer none) := by rw [row_cell hq 2]; simp [qrow, qsOf, HLA.out, pb]
    have q3 : w4.cell? ⟨Q, 3, none⟩ = some (.pointer none) := by rw [row_cell hq 3]; simp [qrow, qsOf, HFI.out, pb]
    have q4 : w4.cell? ⟨Q, 4, none⟩ = some (.int .i64 (lvs s.nd L : Nat)) := by rw [row_cell hq 4]; simp [qrow, qsOf]
    have q1 : ∃ u, w4.cell? ⟨Q, 1, none⟩ = some u := ⟨_, row_cell hq 1⟩
    obtain ⟨v1, q1⟩ := q1
    have g1 : w4.frozen? ⟨Q, 1, none⟩ = false := frozen_of_row w4 Q 1 _ _ hq
    have g2 : w4.frozen? ⟨Q, 2, none⟩ = false := frozen_of_row w4 Q 2 _ _ hq
    have g3 : w4.frozen? ⟨Q, 3, none⟩ = false := frozen_of_row w4 Q 3 _ _ hq
    have g4 : w4.frozen? ⟨Q, 4, none⟩ = false := frozen_of_row w4 Q 4 _ _ hq
    clear a1 k1 a2 k2 a3 k3 a4 k4 a5 k5 a6 k6 hs hqq hn hq aq
    refine HA1.out _ _ ?_
    go_wp2
    go_ret
    exact ⟨rfl, ⟨FIN.out, PP.out⟩, FK.out⟩
set_option maxHeartbeats 1000000 in
set_option maxRecDepth 100000 in
theorem push_sn {base : Nat} {w : World} {A Q room : Nat} {s : ArS} {L F : List Nat} (h : Mq base w A Q room s L F) (hr : room ≤ 65536) (i l b : Nat) (hat : s.at i l = some b) (hL : b ∉ L) (hF : b ∉ F) (ht : L.length + 1 ≤ s.tk) (x : Nat) (hla : L.getLast? = some x) (hfi : fst s.nd L = none) :
    Calls Try.prog 25 #[.pointer (some ⟨Q, 0, none⟩), .agg #[.int .u32 i, .int .u32 l]] w fun e w' => e = .returned (.int .i64 0) ∧ Mq base w' A Q room (s.push Q L b) (L ++ [b]) F ∧ Kq base w w' := by
  have hm := (ArS.at_mem hat).1
  obtain ⟨o1, o2, o3⟩ := h.pq.oth b hm hL
  have FI := hid (show ∀ w', Below w.heap.size w w' → Calls Try.prog 68 #[.pointer (some ⟨A, 0, none⟩), .agg #[.int .u32 i, .int .u32 l]] w' fun e w2 => e = .returned (.pointer (some ⟨b, 0, none⟩)) ∧ Below w'.heap.size w' w2 from fun w' hb => by
    have := find_any (h.aq.ar.on hb) (h.pq.small hr) i l
    rw [hat] at this
    exact this)
  have HB1 := hid (show Below w.heap.size w (w.alloc (.cells #[.int .u32 i, .int .u32 l] 34)).drew from btr (ball w _) (below_drews rfl rfl rfl rfl))
  have q0 : w.cell? ⟨Q, 0, none⟩ = some (.pointer (some ⟨A, 0, none⟩)) := row_cell h.aq.qr 0
  have hQ : Q < w.heap.size := row_lt h.aq.qr
  have PP := hid (h.pq.push hm hL hF ht)
  have QP := hid (qs_push (Q := Q) hL o2)
  have hrl := h.pq.room_le
  have hld := lvs_dds s.nd L
  have i1 : ((lvs s.nd L : Nat) : Int) ≤ 65536 := by omega
  have i2 : (0 : Int) ≤ ((lvs s.nd L : Nat) : Int) := by omega
  have HH := hid h
  have HM := hid hm
  have HLA := hid hla
  have HFI := hid hfi
  have HO := hid o1
  have hxL := List.mem_of_getLast? hla
  have hxb : ¬ x = b := fun e => hL (e ▸ hxL)
  have HXM := hid (h.pq.mem x hxL).1
  have FA := hid (show ∀ w4, Below w.heap.size w w4 → AQ base w4 A Q s (qsOf s.nd L) from fun w4 hb => h.aq.on hb)
  clear h hat hL hF ht hm o1 o2 o3 hla hfi hrl hld
  go_enter Try.func25, Try.ntmps25
  go_wp2
  rename_i K1 A1
  have HA1 := hid A1
  clear A1
  go_region_with (first | (go_at_call 68; refine (FI.out _ HB1.out).mono ?_; rintro e w4 ⟨rfl, hb⟩; have HB4 := hid (btr HB1.out hb); clear hb; have C4 : w4.cell? ⟨b, 4, none⟩ = some (.pointer none) := (by rw [row_cell ((FA.out _ HB4.out).ar.node HM.out).2 4]; simp [nrow, HO.out, pb])))
  all_goals
    have aq := FA.out _ HB4.out
    have hn := (aq.ar.node HM.out).2
    have hq := aq.qr
    have nQb := aq.neN HM.out
    have nbQ : ¬ b = Q := fun e => nQb e.symm
    obtain ⟨a1, k1⟩ := aq.setNode HM.out 4 (.pointer (some ⟨Q, 0, none⟩)) { s.nd b with q := some Q } (by simp [nrow, pb]) rfl
    obtain ⟨a2, k2⟩ := a1.setNode HM.out 6 (.pointer (some ⟨x, 0, none⟩)) { s.nd b with q := some Q, ah := some x } (by simp [nrow, pb, upd_same]) (by simp [upd_same])
    obtain ⟨a3, k3⟩ := a2.setNode HXM.out 7 (.pointer (some ⟨b, 0, none⟩)) { s.nd x with be := some b } (by simp [nrow, pb, upd_other _ _ _ _ hxb]) (by simp [upd_other _ _ _ _ hxb])
    obtain ⟨a4, k4⟩ := a3.setQ 2 (.pointer (some ⟨b, 0, none⟩)) { qsOf s.nd L with bk := some b } (by simp [qrow, qsOf, pb])
    obtain ⟨a5, k5⟩ := a4.setQ 3 (.pointer (some ⟨b, 0, none⟩)) { qsOf s.nd L with bk := some b, fi := some b } (by simp [qrow, qsOf, pb])
    obtain ⟨a6, k6⟩ := a5.setQ 4 (.int .i64 ((lvs s.nd L : Int) + 1)) { qsOf s.nd L with bk := some b, fi := some b, lv := lvs s.nd L + 1 } (by simp [qrow, qsOf])
    have hs : (s.push Q L b) = { s with nd := upd (upd s.nd b { s.nd b with q := some Q, ah := some x }) x { s.nd x with be := some b } } := by unfold ArS.push setBe; rw [HLA.out]; simp only [upd_other _ _ _ _ hxb]
    have hqq : qsOf (s.push Q L b).nd (L ++ [b]) = { qsOf s.nd L with bk := some b, fi := some b, lv := lvs s.nd L + 1 } := by rw [QP.out, HLA.out, HFI.out]; simp [qsOf, HLA.out, HFI.out]
    have FIN := hid (show AQ base _ A Q (s.push Q L b) (qsOf (s.push Q L b).nd (L ++ [b])) from by rw [hqq, hs]; simpa only [upd_upd] using a6)
    have FK := hid ((Kq.of HH.out.aq.low2 HB4.out).trans (((((k1.trans k2).trans k3).trans k4).trans k5).trans k6))
    have f4 : w4.frozen? ⟨b, 4, none⟩ = false := frozen_of_row w4 b 4 _ _ hn
    have c6 : ∃ u, w4.cell? ⟨b, 6, none⟩ = some u := ⟨_, row_cell hn 6⟩
    obtain ⟨u6, c6⟩ := c6
    have f6 : w4.frozen? ⟨b, 6, none⟩ = false := frozen_of_row w4 b 6 _ _ hn
    have q2 : w4.cell? ⟨Q, 2, none⟩ = some (.pointer (some ⟨x, 0, none⟩)) := by rw [row_cell hq 2]; simp [qrow, qsOf, HLA.out, pb]
    have q3 : w4.cell? ⟨Q, 3, none⟩ = some (.pointer none) := by rw [row_cell hq 3]; simp [qrow, qsOf, HFI.out, pb]
    have q4 : w4.cell? ⟨Q, 4, none⟩ = some (.int .i64 (lvs s.nd L : Nat)) := by rw [row_cell hq 4]; simp [qrow, qsOf]
    have q1 : ∃ u, w4.cell? ⟨Q, 1, none⟩ = some u := ⟨_, row_cell hq 1⟩
    obtain ⟨v1, q1⟩ := q1
    have g1 : w4.frozen? ⟨Q, 1, none⟩ = false := frozen_of_row w4 Q 1 _ _ hq
    have g2 : w4.frozen? ⟨Q, 2, none⟩ = false := frozen_of_row w4 Q 2 _ _ hq
    have g3 : w4.frozen? ⟨Q, 3, none⟩ = false := frozen_of_row w4 Q 3 _ _ hq
    have g4 : w4.frozen? ⟨Q, 4, none⟩ = false := frozen_of_row w4 Q 4 _ _ hq
    have hnx := (aq.ar.node HXM.out).2
    have nQx := aq.neN HXM.out
    have nxQ : ¬ x = Q := fun e => nQx e.symm
    have nbx : ¬ b = x := fun e => hxb e.symm
    have x7 : ∃ u, w4.cell? ⟨x, 7, none⟩ = some u := ⟨_, row_cell hnx 7⟩
    obtain ⟨u7, x7⟩ := x7
    have fx7 : w4.frozen? ⟨x, 7, none⟩ = false := frozen_of_row w4 x 7 _ _ hnx
    clear a1 k1 a2 k2 a3 k3 a4 k4 a5 k5 a6 k6 hs hqq hn hq aq hnx
    refine HA1.out _ _ ?_
    go_wp2
    go_ret
    exact ⟨rfl, ⟨FIN.out, PP.out⟩, FK.out⟩
set_option maxHeartbeats 1000000 in
set_option maxRecDepth 100000 in
theorem push_ss {base : Nat} {w : World} {A Q room : Nat} {s : ArS} {L F : List Nat} (h : Mq base w A Q room s L F) (hr : room ≤ 65536) (i l b : Nat) (hat : s.at i l = some b) (hL : b ∉ L) (hF : b ∉ F) (ht : L.length + 1 ≤ s.tk) (x : Nat) (y : Nat) (hla : L.getLast? = some x) (hfi : fst s.nd L = some y) :
    Calls Try.prog 25 #[.pointer (some ⟨Q, 0, none⟩), .agg #[.int .u32 i, .int .u32 l]] w fun e w' => e = .returned (.int .i64 0) ∧ Mq base w' A Q room (s.push Q L b) (L ++ [b]) F ∧ Kq base w w' := by
  have hm := (ArS.at_mem hat).1
  obtain ⟨o1, o2, o3⟩ := h.pq.oth b hm hL
  have FI := hid (show ∀ w', Below w.heap.size w w' → Calls Try.prog 68 #[.pointer (some ⟨A, 0, none⟩), .agg #[.int .u32 i, .int .u32 l]] w' fun e w2 => e = .returned (.pointer (some ⟨b, 0, none⟩)) ∧ Below w'.heap.size w' w2 from fun w' hb => by
    have := find_any (h.aq.ar.on hb) (h.pq.small hr) i l
    rw [hat] at this
    exact this)
  have HB1 := hid (show Below w.heap.size w (w.alloc (.cells #[.int .u32 i, .int .u32 l] 34)).drew from btr (ball w _) (below_drews rfl rfl rfl rfl))
  have q0 : w.cell? ⟨Q, 0, none⟩ = some (.pointer (some ⟨A, 0, none⟩)) := row_cell h.aq.qr 0
  have hQ : Q < w.heap.size := row_lt h.aq.qr
  have PP := hid (h.pq.push hm hL hF ht)
  have QP := hid (qs_push (Q := Q) hL o2)
  have hrl := h.pq.room_le
  have hld := lvs_dds s.nd L
  have i1 : ((lvs s.nd L : Nat) : Int) ≤ 65536 := by omega
  have i2 : (0 : Int) ≤ ((lvs s.nd L : Nat) : Int) := by omega
  have HH := hid h
  have HM := hid hm
  have HLA := hid hla
  have HFI := hid hfi
  have HO := hid o1
  have hxL := List.mem_of_getLast? hla
  have hxb : ¬ x = b := fun e => hL (e ▸ hxL)
  have HXM := hid (h.pq.mem x hxL).1
  have FA := hid (show ∀ w4, Below w.heap.size w w4 → AQ base w4 A Q s (qsOf s.nd L) from fun w4 hb => h.aq.on hb)
  clear h hat hL hF ht hm o1 o2 o3 hla hfi hrl hld
  go_enter Try.func25, Try.ntmps25
  go_wp2
  rename_i K1 A1
  have HA1 := hid A1
  clear A1
  go_region_with (first | (go_at_call 68; refine (FI.out _ HB1.out).mono ?_; rintro e w4 ⟨rfl, hb⟩; have HB4 := hid (btr HB1.out hb); clear hb; have C4 : w4.cell? ⟨b, 4, none⟩ = some (.pointer none) := (by rw [row_cell ((FA.out _ HB4.out).ar.node HM.out).2 4]; simp [nrow, HO.out, pb])))
  all_goals
    have aq := FA.out _ HB4.out
    have hn := (aq.ar.node HM.out).2
    have hq := aq.qr
    have nQb := aq.neN HM.out
    have nbQ : ¬ b = Q := fun e => nQb e.symm
    obtain ⟨a1, k1⟩ := aq.setNode HM.out 4 (.pointer (some ⟨Q, 0, none⟩)) { s.nd b with q := some Q } (by simp [nrow, pb]) rfl
    obtain ⟨a2, k2⟩ := a1.setNode HM.out 6 (.pointer (some ⟨x, 0, none⟩)) { s.nd b with q := some Q, ah := some x } (by simp [nrow, pb, upd_same]) (by simp [upd_same])
    obtain ⟨a3, k3⟩ := a2.setNode HXM.out 7 (.pointer (some ⟨b, 0, none⟩)) { s.nd x with be := some b } (by simp [nrow, pb, upd_other _ _ _ _ hxb]) (by simp [upd_other _ _ _ _ hxb])
    obtain ⟨a4, k4⟩ := a3.setQ 2 (.pointer (some ⟨b, 0, none⟩)) { qsOf s.nd L with bk := some b } (by simp [qrow, qsOf, pb])
    obtain ⟨a5, k5⟩ := a4.setQ 4 (.int .i64 ((lvs s.nd L : Int) + 1)) { qsOf s.nd L with bk := some b, lv := lvs s.nd L + 1 } (by simp [qrow, qsOf])
    have hs : (s.push Q L b) = { s with nd := upd (upd s.nd b { s.nd b with q := some Q, ah := some x }) x { s.nd x with be := some b } } := by unfold ArS.push setBe; rw [HLA.out]; simp only [upd_other _ _ _ _ hxb]
    have hqq : qsOf (s.push Q L b).nd (L ++ [b]) = { qsOf s.nd L with bk := some b, lv := lvs s.nd L + 1 } := by rw [QP.out, HLA.out, HFI.out]; simp [qsOf, HLA.out, HFI.out]
    have FIN := hid (show AQ base _ A Q (s.push Q L b) (qsOf (s.push Q L b).nd (L ++ [b])) from by rw [hqq, hs]; simpa only [upd_upd] using a5)
    have FK := hid ((Kq.of HH.out.aq.low2 HB4.out).trans ((((k1.trans k2).trans k3).trans k4).trans k5))
    have f4 : w4.frozen? ⟨b, 4, none⟩ = false := frozen_of_row w4 b 4 _ _ hn
    have c6 : ∃ u, w4.cell? ⟨b, 6, none⟩ = some u := ⟨_, row_cell hn 6⟩
    obtain ⟨u6, c6⟩ := c6
    have f6 : w4.frozen? ⟨b, 6, none⟩ = false := frozen_of_row w4 b 6 _ _ hn
    have q2 : w4.cell? ⟨Q, 2, none⟩ = some (.pointer (some ⟨x, 0, none⟩)) := by rw [row_cell hq 2]; simp [qrow, qsOf, HLA.out, pb]
    have q3 : w4.cell? ⟨Q, 3, none⟩ = some (.pointer (some ⟨y, 0, none⟩)) := by rw [row_cell hq 3]; simp [qrow, qsOf, HFI.out, pb]
    have q4 : w4.cell? ⟨Q, 4, none⟩ = some (.int .i64 (lvs s.nd L : Nat)) := by rw [row_cell hq 4]; simp [qrow, qsOf]
    have q1 : ∃ u, w4.cell? ⟨Q, 1, none⟩ = some u := ⟨_, row_cell hq 1⟩
    obtain ⟨v1, q1⟩ := q1
    have g1 : w4.frozen? ⟨Q, 1, none⟩ = false := frozen_of_row w4 Q 1 _ _ hq
    have g2 : w4.frozen? ⟨Q, 2, none⟩ = false := frozen_of_row w4 Q 2 _ _ hq
    have g3 : w4.frozen? ⟨Q, 3, none⟩ = false := frozen_of_row w4 Q 3 _ _ hq
    have g4 : w4.frozen? ⟨Q, 4, none⟩ = false := frozen_of_row w4 Q 4 _ _ hq
    have hnx := (aq.ar.node HXM.out).2
    have nQx := aq.neN HXM.out
    have nxQ : ¬ x = Q := fun e => nQx e.symm
    have nbx : ¬ b = x := fun e => hxb e.symm
    have x7 : ∃ u, w4.cell? ⟨x, 7, none⟩ = some u := ⟨_, row_cell hnx 7⟩
    obtain ⟨u7, x7⟩ := x7
    have fx7 : w4.frozen? ⟨x, 7, none⟩ = false := frozen_of_row w4 x 7 _ _ hnx
    clear a1 k1 a2 k2 a3 k3 a4 k4 a5 k5 hs hqq hn hq aq hnx
    refine HA1.out _ _ ?_
    go_wp2
    go_ret
    exact ⟨rfl, ⟨FIN.out, PP.out⟩, FK.out⟩
theorem push_any {base : Nat} {w : World} {A Q room : Nat} {s : ArS} {L F : List Nat} (h : Mq base w A Q room s L F) (hr : room ≤ 65536) (i l b : Nat) (hat : s.at i l = some b) (hL : b ∉ L) (hF : b ∉ F) (ht : L.length + 1 ≤ s.tk) :
    Calls Try.prog 25 #[.pointer (some ⟨Q, 0, none⟩), .agg #[.int .u32 i, .int .u32 l]] w fun e w' => e = .returned (.int .i64 0) ∧ Mq base w' A Q room (s.push Q L b) (L ++ [b]) F ∧ Kq base w w' := by
  cases hla : L.getLast? with
  | none =>
    have hn : L = [] := by simpa using hla
    exact push_n h hr i l b hat hL hF ht hla (by rw [hn]; rfl)
  | some x =>
    cases hfi : fst s.nd L with
    | none => exact push_sn h hr i l b hat hL hF ht x hla hfi
    | some y => exact push_ss h hr i l b hat hL hF ht x y hla hfi
end Go.Proofs.Ytecalelfofgfpaa
