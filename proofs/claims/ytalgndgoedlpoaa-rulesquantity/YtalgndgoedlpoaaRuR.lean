/-
  The first order again, behind all others at its price.
-/
import Derived.Test.YtalgndgoedlpoaaRuF
import Derived.Deep.Cut
namespace Go.Proofs.Ytalgndgoedlpoaa
open Go.RowKit Go.Deep Go.Shelf
set_option linter.unusedVariables false
set_option linter.unusedSimpArgs false
set_option maxHeartbeats 2000000
set_option maxRecDepth 100000
theorem btt_irr (s p : Int) : btt s p p = false := by unfold btt; split <;> simp
theorem bhd_pos {s : Int} {x : Nat × Or} {r : LO} : 0 < bhd s x.2.pr (x :: r) := by
  unfold bhd
  simp [List.takeWhile_cons, btt_irr]
/-- the first one behind all others at its price. -/
def agn (s : Int) : LO → LO
  | [] => []
  | x :: r => ins (bhd s x.2.pr (x :: r) - 1) x r
theorem agn_len (s : Int) (x : Nat × Or) (r : LO) : (agn s (x :: r)).length = (x :: r).length := by
  have := bhd_le s x.2.pr (x :: r)
  unfold agn
  rw [ins_len (by simp at this; omega)]; rfl
theorem rotL {A : List Value} {x : Value} {R : List Value} {k n : Nat} (hn : R.length + 1 = n) (hk : k < n) (hA : A.take n = x :: R) :
    ((R.take k ++ A.drop (0 + (R.take k).length)).set k x).take n = R.take k ++ x :: R.drop k := by
  have e0 : (R.take k).length = k := by rw [List.length_take]; omega
  have hl : n ≤ A.length := by
    have := congrArg List.length hA
    rw [List.length_take] at this
    simp at this
    omega
  rw [e0, Nat.zero_add, List.set_append_right _ _ (by omega), e0, Nat.sub_self]
  have e1 : (A.drop k).take (n - k) = (x :: R).drop k := by rw [← hA, List.drop_take]
  have e2 : ((A.drop k).set 0 x).take (n - k) = x :: R.drop k := by
    rw [List.take_set, e1]
    cases k with
    | zero => simp
    | succ k =>
      simp only [List.drop_succ_cons]
      rw [List.drop_eq_getElem_cons (by omega), List.set_cons_zero]
  rw [List.take_append, e0, e2, List.take_of_length_le (by omega)]
theorem again_any (p : Option Addr) (c : Nat) (s : Int) (x : Nat × Or) (r : LO) (w : World) (h : Li w p c (x :: r)) (hn : (x :: r).length ≤ 1048576) (ho : Srt s (x :: r)) :
    Calls Try.prog 77 #[.slice p (x :: r).length c, .int .i64 s] w fun e w' => e = .returned (.tuple #[]) ∧ Li w' p c (agn s (x :: r)) ∧ Kp (OfP p) w w' := by
  obtain ⟨g, cur, rfl, hr, hcs, hlc, hcm, hcell⟩ := h.some (by simp)
  unfold maxLen at hcm
  have C := hid (behind_any s x.2.pr (some ⟨g, 0, none⟩) c (x :: r) w h hn ho)
  have hb1 : 0 < bhd s x.2.pr (x :: r) := bhd_pos
  have hb2 := bhd_le s x.2.pr (x :: r)
  obtain ⟨k, hk⟩ : ∃ k, bhd s x.2.pr (x :: r) = k + 1 := ⟨bhd s x.2.pr (x :: r) - 1, by omega⟩
  rw [hk] at C hb1 hb2
  have ha : agn s (x :: r) = ins k x r := by show ins (bhd s x.2.pr (x :: r) - 1) x r = _; rw [hk]; rfl
  have c0 := hcell 0 (by simp)
  simp only [List.getElem_cons_zero] at c0
  have cg : w.cell? ⟨g, 0, none⟩ = some (.pointer (some ⟨x.1, 0, none⟩)) := by rw [row_cell hr]; exact c0
  have hx := h.at' x (by simp)
  have cx := row_cell hx 3
  simp only [orow, List.getElem?_toArray, List.getElem?_cons_succ, List.getElem?_cons_zero] at cx
  obtain ⟨n, hnn⟩ : ∃ n, (x :: r).length = n := ⟨_, rfl⟩
  have hrn : r.length + 1 = n := by rw [← hnn]; rfl
  rw [hnn] at C hn hlc hb2 ⊢
  have hpl : cur.toList.take n = pv x.1 :: pvs r := by
    have := take_row (by rw [hcs, hnn]; exact hlc) hcell
    rw [hnn] at this
    exact this
  obtain ⟨R1, hR1⟩ : ∃ R1, (cur.toList.take 0 ++ (pvs r).take k ++ cur.toList.drop (0 + ((pvs r).take k).length)).toArray = R1 := ⟨_, rfl⟩
  have hlk : ((pvs r).take k).length = k := by rw [List.length_take, pvs_len]; omega
  have hs1 : R1.size = c := by rw [← hR1]; simp [pvs_len]; omega
  have HCP := hid (fun (U : World) (hU : U.heap[g]? = some (.cells cur 92 (0, 0))) (a : Addr) (ha : 0 < k → a = ⟨g, 1, none⟩) (ty : TypeId) (dc sc : Nat) => (show (Builtin.copy_ #[87, 87] ty #[.slice (some ⟨g, 0, none⟩) k dc, .slice (some a) (n - 1) sc]).run Try.prog U = .ok (goInt ((pvs r).take k).length) (U.setRow g R1) from by
    rw [← hR1]
    refine run_copy_row Try.prog U 87 87 ty 92 g 0 k dc a (n - 1) sc cur 92 ((pvs r).take k) Try.underlying87 size92 hU (by rw [hlk]; simp only [Nat.min_def]; split <;> omega) (fun j v hj => ?_) (by rw [hlk]; omega) (fun v hv => pvs_one r v (List.mem_of_mem_take hv))
    have hj2 : j < k := by have := (List.getElem?_eq_some_iff.1 hj).1; rwa [hlk] at this
    rw [ha (by omega), Addr.add_lit, row_cell hU]
    have h1 := hcell (1 + j) (by rw [hnn]; omega)
    rw [h1]
    rw [List.getElem?_take, if_pos hj2] at hj
    simp only [pvs, List.getElem?_map] at hj
    rw [List.getElem?_eq_getElem (by omega)] at hj
    rw [← hj]
    have : (x :: r)[1 + j]'(by rw [hnn]; omega) = r[j] := by
      have : 1 + j = j + 1 := by omega
      simp [this]
    rw [this]; rfl))
  have HFIN := hid (fun (U : World) (hb : Below w.heap.size w U) => (show (U.setRow g R1).heap[g]? = some (.cells R1 92 (0, 0)) ∧ Li ((U.setRow g R1).setCell ⟨g, k, none⟩ (.pointer (some ⟨x.1, 0, none⟩))) (some ⟨g, 0, none⟩) c (agn s (x :: r)) ∧ Kp (OfP (some ⟨g, 0, none⟩)) w ((U.setRow g R1).setCell ⟨g, k, none⟩ (.pointer (some ⟨x.1, 0, none⟩))) from by
    have h1 := setRow_heap U g cur R1 92 (0, 0) (row_on hr hb)
    have hk1 : Kp (fun b => b = g) w ((U.setRow g R1).setCell ⟨g, k, none⟩ (.pointer (some ⟨x.1, 0, none⟩))) := ((Kp.of (fun b => b = g) hb).trans (setRow_kp U g R1) (fun _ _ h => h)).trans (Kp.set _ g k _) (fun _ _ h => h)
    refine ⟨h1, ⟨?_, fun y hy => ?_⟩, hk1.mono (fun b _ e => by rw [e]; exact OfP.mk g)⟩
    · have hl2 : (agn s (x :: r)).length = n := by rw [agn_len, hnn]
      rw [hl2]
      refine own_mk (set_row _ h1) hlc (by unfold maxLen; exact hcm) (by simp; exact hs1) ?_ (by rw [pvs_len, hl2])
      rw [ha, pvs_ins, Array.toList_setIfInBounds, ← hR1]
      have := rotL (A := cur.toList) (x := pv x.1) (R := pvs r) (k := k) (n := n) (by rw [pvs_len]; exact hrn) (by omega) hpl
      simpa [pv] using this
    · rw [ha] at hy
      have hm : y ∈ x :: r := by
        rcases ins_mem hy with rfl | h'
        · simp
        · simp [h']
      have hy' := h.at' y hm
      exact hk1.row hy' (row_ne hy' hr (by decide))))
  have z1 : (k : Int) + 1 - 1 = (k : Int) := by omega
  have k0 : (0 : Int) ≤ (k : Int) := by omega
  have k1 : (k : Int) ≤ (n : Int) := by omega
  have k2 : (k : Int) < (n : Int) := by omega
  have k3 : (k : Int) ≤ (c : Int) := by omega
  have n1 : (1 : Int) ≤ (n : Int) := by omega
  have n0 : 0 < n := by omega
  have HL := hid h
  have HR := hid hr
  have F1 := hid (fun (U : World) (hb : Below w.heap.size w U) (j : Nat) => row_frz (HFIN.out U hb).1 j)
  have C1 := hid (fun (U : World) (hb : Below w.heap.size w U) => (show ∃ y, (U.setRow g R1).cell? ⟨g, k, none⟩ = some y from ⟨_, by rw [row_cell (HFIN.out U hb).1, Array.getElem?_eq_getElem (by omega)]⟩))
  have HCG := hid (fun (U : World) (hb : Below w.heap.size w U) => And.intro (row_on hr hb) trivial)
  have hkn : ((k + 1 : Nat) : Int) = (k : Int) + 1 := by omega
  rw [hkn] at C
  clear hkn
  by_cases hc1 : c = 1
  · subst hc1
    obtain rfl : k = 0 := by omega
    obtain rfl : n = 1 := by omega
    clear h hr hx hcell hk ha hnn hrn hpl hR1 hlk hb1 hb2 c0 hcs hlc hcm hn ho
    go_enter Try.func77, Try.ntmps77
    go_upto_region 2 with (go_at_call 76; with_reducible refine (C.out).mono ?_; rintro e w1 ⟨rfl, hb⟩; have HB := hid hb; clear hb)
    go_region_law (refine step_copy_known (by rfl) (.tmp 19) (.tmp 21) 87 87 (by rfl) (.slice (some ⟨g, 0, none⟩) 0 1) (.slice (some ⟨g, 0, none⟩) 0 0) (by simp [Act.eval, Act.put]) (by simp [Act.eval, Act.put]) (HCP.out w1.drew (row_on HR.out (btr HB.out (bdrew1 _))) ⟨g, 0, none⟩ (fun h => absurd h (by omega)) _ _ _) ?_)
    have HF := hid (HFIN.out w1.drew (btr HB.out (bdrew1 _)))
    obtain ⟨y, cy⟩ := C1.out w1.drew (btr HB.out (bdrew1 _))
    have fy := F1.out w1.drew (btr HB.out (bdrew1 _)) 0
    go_wp2
    go_end0
    exact ⟨rfl, HF.out.2⟩
  · have b1 : ¬ (c = 1) := hc1
    clear h hr hx hcell hk ha hnn hrn hpl hR1 hlk hb1 hb2 c0 hcs hn ho hc1
    go_enter Try.func77, Try.ntmps77
    go_upto_region 2 with (go_at_call 76; with_reducible refine (C.out).mono ?_; rintro e w1 ⟨rfl, hb⟩; have HB := hid hb; clear hb)
    go_region_law (refine step_copy_known (by rfl) (.tmp 19) (.tmp 21) 87 87 (by rfl) (.slice (some ⟨g, 0, none⟩) k c) (.slice (some ⟨g, 1, none⟩) (n - 1) (c - 1)) (by simp [Act.eval, Act.put]) (by simp [Act.eval, Act.put]) (HCP.out w1.drew (row_on HR.out (btr HB.out (bdrew1 _))) ⟨g, 1, none⟩ (fun _ => rfl) _ _ _) ?_)
    have HF := hid (HFIN.out w1.drew (btr HB.out (bdrew1 _)))
    obtain ⟨y, cy⟩ := C1.out w1.drew (btr HB.out (bdrew1 _))
    have fy := F1.out w1.drew (btr HB.out (bdrew1 _)) k
    go_wp2
    go_end0
    exact ⟨rfl, HF.out.2⟩
end Go.Proofs.Ytalgndgoedlpoaa
