/-
  DpF
-/
import Derived.Test.YtojmcfkbekodpaaGs
import Derived.Test.YtojmcfkbekodpaaFgH
namespace Go.Proofs.Ytojmcfkbekodpaa
open Go.RowKit Go.Deep Go.Shelf
set_option linter.unusedVariables false
set_option linter.unusedSimpArgs false
set_option maxHeartbeats 1000000
set_option maxRecDepth 100000
/-- what is told of a command. -/
def tdl (l1 l2 : List Fd.Lv) (b : Bs) (d : Nat) (E : List Fd.Ev) : List Fd.Dm := Fd.trd E ++ Fd.chg 1 l1 (bl b 1 d) ++ Fd.chg 2 l2 (bl b 2 d)
theorem tdl_len {l1 l2 : List Fd.Lv} {b : Bs} {d : Nat} {E : List Fd.Ev} (n1 : l1.length ≤ 64) (n2 : l2.length ≤ 64) (hd : d ≤ 64) : (tdl l1 l2 b d E).length ≤ E.length + 256 := by
  unfold tdl
  rw [List.length_append, List.length_append]
  have a := Fd.chg_len 1 l1 (bl b 1 d)
  have c := Fd.chg_len 2 l2 (bl b 2 d)
  have e : (Fd.trd E).length ≤ E.length := by
    unfold Fd.trd
    rw [List.length_map]
    exact List.length_filter_le _ _
  have f1 : (bl b 1 d).length ≤ d := by unfold bl; rw [lvs_len]; exact (dpl_len 1 d _).1
  have f2 : (bl b 2 d).length ≤ d := by unfold bl; rw [lvs_len]; exact (dpl_len 2 d _).1
  omega
end Go.Proofs.Ytojmcfkbekodpaa
namespace Go.Proofs.Ytojmcfkbekodpaa
open Go.RowKit Go.Deep Go.Shelf
set_option linter.unusedVariables false
set_option linter.unusedSimpArgs false
set_option maxHeartbeats 16000000
set_option maxRecDepth 100000
attribute [local go_sem ↓] Go.wp_at_zero Go.wp_at_succ
/-- commands in memory. -/
def Cmz (w : World) (q : Option Addr) (l : List Cm) : Prop := ∀ i (h : i < l.length), ∃ b off, q = some ⟨b, off, none⟩ ∧ b < w.heap.size ∧ ∀ j, j < 9 → w.cell? ⟨b, off + i * 9 + j, none⟩ = (cmr l[i])[j]?
theorem cmz_cells {W U : World} {q : Option Addr} {l : List Cm} (h : Cmz W q l) (hU : Below W.heap.size W U) {i : Nat} (hi : i < l.length) : ∃ b off, q = some ⟨b, off, none⟩ ∧ U.cell? ⟨b, off + i * 9, none⟩ = some (.int .i64 l[i].kd) ∧ U.cell? ⟨b, off + i * 9 + 1, none⟩ = some (.int .u64 l[i].id) ∧ U.cell? ⟨b, off + i * 9 + 2, none⟩ = some (.int .u64 l[i].tg) ∧ U.cell? ⟨b, off + i * 9 + 3, none⟩ = some (.int .u32 l[i].mb) ∧ U.cell? ⟨b, off + i * 9 + 4, none⟩ = some (.int .i64 l[i].sd) ∧ U.cell? ⟨b, off + i * 9 + 5, none⟩ = some (.int .i64 l[i].ty) ∧ U.cell? ⟨b, off + i * 9 + 6, none⟩ = some (.int .i64 l[i].pr) ∧ U.cell? ⟨b, off + i * 9 + 7, none⟩ = some (.int .u64 l[i].qt) ∧ U.cell? ⟨b, off + i * 9 + 8, none⟩ = some (.int .u64 l[i].pk) := by
  obtain ⟨b, off, hq, hb, hc⟩ := h i hi
  have go : ∀ j, j < 9 → U.cell? ⟨b, off + i * 9 + j, none⟩ = (cmr l[i])[j]? := fun j hj => (hU.cell (p := ⟨b, off + i * 9 + j, none⟩) hb).trans (hc j hj)
  exact ⟨b, off, hq, go 0 (by omega), go 1 (by omega), go 2 (by omega), go 3 (by omega), go 4 (by omega), go 5 (by omega), go 6 (by omega), go 7 (by omega), go 8 (by omega)⟩
end Go.Proofs.Ytojmcfkbekodpaa
