/-
  ShE
-/
import Derived.Test.YtojmcfkbekodpaaGv
import Derived.Test.YtojmcfkbekodpaaGw
import Derived.Test.YtojmcfkbekodpaaShB
import Derived.Test.YtojmcfkbekodpaaGx
namespace Go.Proofs.Ytojmcfkbekodpaa
open Go.RowKit Go.Deep Go.Shelf
set_option linter.unusedVariables false
set_option linter.unusedSimpArgs false
set_option maxHeartbeats 1000000
theorem Sv.at {lo B P S : Nat} {dq : Option Addr} {dc : Nat} {D : List Fd.Dm} {pq : Option Addr} {pc : Nat} {L : List Pic} {U : World} (h : Sv lo B P S dq dc D pq pc L U) {i : Nat} (hi : i < L.length) : ∃ g, pq = some ⟨g, 0, none⟩ ∧ ∀ V, Below U.heap.size U V → V.cell? ⟨g, i * 3, none⟩ = some (.int .u64 L[i].sq) ∧ V.cell? ⟨g, i * 3 + 1, none⟩ = some (.slice L[i].p1 L[i].l1.length L[i].c1) ∧ V.cell? ⟨g, i * 3 + 2, none⟩ = some (.slice L[i].p2 L[i].l2.length L[i].c2) := by
  obtain ⟨g, cur, rfl, _⟩ := Fd.own_at h.pi (by omega)
  refine ⟨g, rfl, fun V hV => ?_⟩
  have hc := (Fd.own_cells (Fd.own_on h.pi hV)).2
  have get : ∀ j, j < 3 → ∀ u, (L[i].cs)[j]? = some u → V.cell? ⟨g, i * 3 + j, none⟩ = some u := fun j hj u hu => by
    have := hc (i * 3 + j) u (by rw [pcc_get L i hi j hj]; exact hu)
    rw [Addr.add_lit, Nat.zero_add] at this
    exact this
  exact ⟨get 0 (by omega) _ rfl, get 1 (by omega) _ rfl, get 2 (by omega) _ rfl⟩
theorem Sv.lvs {lo B P S : Nat} {dq : Option Addr} {dc : Nat} {D : List Fd.Dm} {pq : Option Addr} {pc : Nat} {L : List Pic} {U : World} (h : Sv lo B P S dq dc D pq pc L U) {i : Nat} (hi : i < L.length) : Fd.Rl U L[i].p1 L[i].c1 L[i].l1 ∧ Fd.Rl U L[i].p2 L[i].c2 L[i].l2 :=
  ⟨(h.ea _ (List.getElem_mem hi)).1.rl, (h.ea _ (List.getElem_mem hi)).2.rl⟩
end Go.Proofs.Ytojmcfkbekodpaa
