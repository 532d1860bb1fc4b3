/-
  What was told, cell by cell.
-/
import Derived.Test.YtojmcfkbekodpaaKw
import Derived.Test.YtojmcfkbekodpaaShB
import Derived.Test.YtojmcfkbekodpaaKx
namespace Go.Proofs.Ytojmcfkbekodpaa
open Go.RowKit Go.Deep Go.Shelf
set_option linter.unusedVariables false
set_option linter.unusedSimpArgs false
set_option maxHeartbeats 1000000
theorem Sv.at {lo B P S : Nat} {dq : Option Addr} {dc : Nat} {D : List Fd.Dm} {pq : Option Addr} {pc : Nat} {L : List Pic} {U : World} (h : Sv lo B P S dq dc D pq pc L U) {i : Nat} (hi : i < L.length) : ∃ g, pq = some ⟨g, 0, none⟩ ∧ ∀ V, Below U.heap.size U V → V.cell? ⟨g, i * 3, none⟩ = some (.int .u64 L[i].sq) ∧ V.cell? ⟨g, i * 3 + 1, none⟩ = some (.slice L[i].p1 L[i].l1.length L[i].c1) ∧ V.cell? ⟨g, i * 3 + 2, none⟩ = some (.slice L[i].p2 L[i].l2.length L[i].c2) := by
  obtain ⟨g, cur, rfl, _⟩ := Fd.own_at h.pi (by omega)
  refine ⟨g, rfl, fun V hV => ?_⟩
  have hc := (Fd.own_cells (Fd.own_on h.pi hV)).2
  have get : ∀ j, j < 3 → ∀ u, (L[i].cs)[j]? = some u → V.cell? ⟨g, i * 3 + j, none⟩ = some u := fun j hj u hu => by
    have := hc (i * 3 + j) u (by rw [pcc_get L i hi j hj]; exact hu)
    rw [Addr.add_lit, Nat.zero_add] at this
    exact this
  exact ⟨get 0 (by omega) _ rfl, get 1 (by omega) _ rfl, get 2 (by omega) _ rfl⟩
theorem Sv.lvs {lo B P S : Nat} {dq : Option Addr} {dc : Nat} {D : List Fd.Dm} {pq : Option Addr} {pc : Nat} {L : List Pic} {U : World} (h : Sv lo B P S dq dc D pq pc L U) {i : Nat} (hi : i < L.length) : Fd.Rl U L[i].p1 L[i].c1 L[i].l1 ∧ Fd.Rl U L[i].p2 L[i].c2 L[i].l2 :=
  ⟨(h.ea _ (List.getElem_mem hi)).1.rl, (h.ea _ (List.getElem_mem hi)).2.rl⟩
theorem sl0 (q : Option Addr) (c : Nat) : (if c = 0 then q else Option.map (fun x => x.add 0) q) = q := by
  split
  · rfl
  · cases q with
    | none => rfl
    | some a => simp only [Option.map_some, Option.some.injEq]; obtain ⟨b, o, s⟩ := a; unfold Addr.add; cases s <;> simp
theorem trs_take_succ {D : List Fd.Dm} {i : Nat} (h : i < D.length) : trs (D.take (i + 1)) = trs (D.take i) ++ if D[i].kd = 2 then [(D[i].sd, D[i].pr, D[i].qt)] else [] := by
  rw [← List.take_append_getElem h, trs_app]
  congr 1
  unfold trs
  by_cases hk : D[i].kd = 2
  · rw [if_pos hk, List.filter_cons_of_pos (by simpa using hk)]; rfl
  · rw [if_neg hk, List.filter_cons_of_neg (by simpa using hk)]; rfl
theorem trs_pre (D : List Fd.Dm) (i : Nat) : ∃ r, trs D = trs (D.take i) ++ r := ⟨trs (D.drop i), by rw [← trs_app, List.take_append_drop]⟩
theorem trs_next {D D2 : List Fd.Dm} {i k : Nat} (hE : trs D2 = trs D) (hi : i < D.length) (h2 : D[i].kd = 2) (hk : trs (D2.take k) = trs (D.take i)) (hn : ∀ h : k < D2.length, D2[k].kd = 2) : ∃ h : k < D2.length, D2[k].sd = D[i].sd ∧ D2[k].pr = D[i].pr ∧ D2[k].qt = D[i].qt ∧ trs (D2.take (k + 1)) = trs (D.take (i + 1)) := by
  have e1 := trs_take_succ hi
  rw [if_pos h2] at e1
  obtain ⟨r, hr⟩ := trs_pre D (i + 1)
  rw [e1] at hr
  by_cases hlt : k < D2.length
  · have e2 := trs_take_succ hlt
    rw [if_pos (hn hlt)] at e2
    obtain ⟨r2, hr2⟩ := trs_pre D2 (k + 1)
    rw [e2, hk, hE, hr, List.append_assoc, List.append_assoc] at hr2
    have := List.append_cancel_left hr2
    simp only [List.singleton_append, List.cons.injEq, Prod.mk.injEq] at this
    refine ⟨hlt, this.1.1.symm, this.1.2.1.symm, this.1.2.2.symm, ?_⟩
    rw [e1, e2, hk, this.1.1, this.1.2.1, this.1.2.2]
  · rw [List.take_of_length_le (by omega), hE, hr] at hk
    have := congrArg List.length hk
    simp at this
theorem trs_end {D D2 : List Fd.Dm} {k : Nat} (hE : trs D2 = trs D) (hk : trs (D2.take k) = trs D) (hn : ∀ h : k < D2.length, D2[k].kd = 2) (hle : k ≤ D2.length) : k = D2.length := by
  by_cases hlt : k < D2.length
  · have e2 := trs_take_succ hlt
    rw [if_pos (hn hlt), hk] at e2
    obtain ⟨r2, hr2⟩ := trs_pre D2 (k + 1)
    rw [e2, hE] at hr2
    have := congrArg List.length hr2
    simp at this
  · omega
end Go.Proofs.Ytojmcfkbekodpaa
