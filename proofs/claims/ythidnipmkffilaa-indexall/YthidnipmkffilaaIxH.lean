/-
  Both of a room.
-/
import Derived.Test.YthidnipmkffilaaIxR
namespace Go.Proofs.Ythidnipmkffilaa
open Go.RowKit Go.Deep
set_option linter.unusedVariables false
set_option linter.unusedSimpArgs false
set_option maxHeartbeats 1000000 in
set_option maxRecDepth 100000 in
theorem made_bad {room : Int} (h : room < 1 ∨ 65536 < room) (w : World) :
    Calls Try.prog 9 #[.int .i64 room] w fun e w' => e = .returned (.tuple #[.agg #[.pointer none, .pointer none], .bool true]) ∧ Below w.heap.size w w' := by
  have hN := new_bad h
  have hR := rnew_bad h
  clear h
  go_enter Try.func9, Try.ntmps9
  go_wp2_with (first | (go_at_call 17; with_reducible refine (hN _).mono ?_; rintro e w9 ⟨rfl, h9⟩; subst w9) | (go_at_call 24; with_reducible refine (hR _).mono ?_; rintro e w9 ⟨rfl, h9⟩; subst w9))
  exact bodyPost_ret (v := .tuple #[.agg #[.pointer none, .pointer none], .bool true]) (by simp [results, Try.results9, go_sem]) rfl ⟨rfl, ball _ _⟩
set_option maxHeartbeats 1000000 in
set_option maxRecDepth 100000 in
theorem made_any {room : Nat} (h1 : 1 ≤ room) (h2 : room ≤ 65536) (w : World) :
    Calls Try.prog 9 #[.int .i64 room] w fun e w' => ∃ X P R Q, e = .returned (.tuple #[.agg #[.pointer (some ⟨X, 0, none⟩), .pointer (some ⟨R, 0, none⟩)], .bool true]) ∧ Lx w' X P (pn room) room Ix.nil ∧ Rx w' R Q (pn room) room Ix.nil ∧ w.heap.size ≤ X ∧ w.heap.size ≤ P ∧ w.heap.size ≤ R ∧ w.heap.size ≤ Q ∧ Below w.heap.size w w' := by
  have hN := new_any h1 h2
  have hR := rnew_any h1 h2
  clear h1 h2
  go_enter Try.func9, Try.ntmps9
  go_wp2_with (first | (go_at_call 17; with_reducible refine (hN _).mono ?_; rintro e w1 ⟨X, P, rfl, hL, hX, hP, hB⟩; have HL := hid hL; have HB := hid hB; have HXP := hid (And.intro hX hP); clear hL hB hX hP; refine Hid.out ?_))
  refine hid ?_
  go_wp2_with (first | (go_at_call 24; with_reducible refine (hR _).mono ?_; rintro e w2 ⟨R, Q, rfl, hL, hX, hP, hB⟩; have HR := hid hL; have HB2 := hid hB; have HRQ := hid (And.intro hX hP); clear hL hB hX hP; refine Hid.out ?_))
  have z1 := row_on (heap_alloc_new w (.cells #[.pointer none, .pointer none] 25)) (btr HB.out HB2.out)
  have c0 := row_cell z1 0
  have c1 := row_cell z1 1
  have g0 := frozen_of_row w2 w.heap.size 0 _ _ z1
  have g1 := frozen_of_row w2 w.heap.size 1 _ _ z1
  simp only [List.getElem?_toArray, List.getElem?_cons_zero, List.getElem?_cons_succ] at c0 c1
  have HZ := hid z1
  have hsz : w.heap.size < w2.heap.size := row_lt z1
  clear z1
  refine hid ?_
  go_wp2_with fail
  have z2 : ((w2.setCell ⟨w.heap.size, 0, none⟩ (.pointer (some ⟨X, 0, none⟩))).setCell ⟨w.heap.size, 1, none⟩ (.pointer (some ⟨R, 0, none⟩))).heap[w.heap.size]? = some (.cells #[.pointer (some ⟨X, 0, none⟩), .pointer (some ⟨R, 0, none⟩)] 25 (0, 0)) := by
    rw [heap_setCell_same _ _ _ _ _ _ (heap_setCell_same _ _ _ _ _ _ HZ.out)]; simp
  have k0 := row_cell z2 0
  have k1 := row_cell z2 1
  simp only [List.getElem?_toArray, List.getElem?_cons_zero, List.getElem?_cons_succ] at k0 k1
  have hKP : Kp (fun b => b = w.heap.size) w2 ((w2.setCell ⟨w.heap.size, 0, none⟩ (.pointer (some ⟨X, 0, none⟩))).setCell ⟨w.heap.size, 1, none⟩ (.pointer (some ⟨R, 0, none⟩))) := (Kp.setCell (B := fun b => b = w.heap.size) rfl _ _).trans (Kp.setCell (B := fun b => b = w.heap.size) rfl _ _)
  have hxp := HXP.out
  have hrq := HRQ.out
  have hs1 := HB.out.size
  have hsa : (w.alloc (Obj.cells #[Value.pointer none, Value.pointer none] 25)).heap.size = w.heap.size + 1 := by simp
  rw [hsa] at hxp hs1
  have L2 := HL.out.kp (Kp.ofBelow (fun _ => False) HB2.out) (fun h => h) (fun h => h)
  generalize ((w2.setCell ⟨w.heap.size, 0, none⟩ (.pointer (some ⟨X, 0, none⟩))).setCell ⟨w.heap.size, 1, none⟩ (.pointer (some ⟨R, 0, none⟩))) = w3 at *
  refine bodyPost_ret (v := .tuple #[.agg #[.pointer (some ⟨X, 0, none⟩), .pointer (some ⟨R, 0, none⟩)], .bool true]) (by simp [results, Try.results9, go_sem, k0, k1]) rfl ⟨X, P, R, Q, rfl, L2.kp hKP (by omega) (by omega), HR.out.kp hKP (by omega) (by omega), by omega, by omega, by omega, by omega, ?_⟩
  exact (btr (ball _ _) (btr HB.out HB2.out)).trans (hKP.below (by omega) (fun g hg => by omega))
set_option maxHeartbeats 1000000 in
set_option maxRecDepth 100000 in
theorem homes_bad {room : Int} (h : room < 1 ∨ 65536 < room) (key : Int) (w : World) :
    Calls Try.prog 4 #[.int .i64 room, .int .u64 key] w fun e w' => e = .returned (.bool true) ∧ Below w.heap.size w w' := by
  have HM := hid (made_bad h w)
  clear h
  go_enter Try.func4, Try.ntmps4
  go_wp2_with (first | (go_at_call 9; with_reducible refine (HM.out).mono ?_; rintro e w1 ⟨rfl, hB⟩; have HB := hid hB; clear hB; refine Hid.out ?_))
  refine hid ?_
  go_wp2_with fail
  go_ret
  exact ⟨rfl, btr HB.out (ball _ _)⟩
set_option maxHeartbeats 1000000 in
set_option maxRecDepth 100000 in
theorem homes_any {room : Nat} (h1 : 1 ≤ room) (h2 : room ≤ 65536) (key : Int) (w : World) :
    Calls Try.prog 4 #[.int .i64 room, .int .u64 key] w fun e w' => e = .returned (.bool true) ∧ Below w.heap.size w w' := by
  have HM := hid (made_any h1 h2 w)
  clear h1 h2
  go_enter Try.func4, Try.ntmps4
  go_wp2_with (first | (go_at_call 9; with_reducible refine (HM.out).mono ?_; rintro e w1 ⟨X, P, R, Q, rfl, hL, hR, hX, hP, hR', hQ', hB⟩; have HB := hid hB; have HL := hid hL; have HR := hid hR; clear hB hL hR hX hP hR' hQ'; refine Hid.out ?_))
  have hbb := ball w1 (.cells #[.pointer (some ⟨X, 0, none⟩), .pointer (some ⟨R, 0, none⟩)] 25)
  have HBB := hid hbb
  have hH := Home_any (HL.out.kp (Kp.ofBelow (fun _ => False) hbb) (fun h => h) (fun h => h)).drew key
  have hG := RHome_any (HR.out.kp (Kp.ofBelow (fun _ => False) hbb) (fun h => h) (fun h => h)).drew key
  generalize hm (pn room) key = z at *
  clear hbb
  have kk : ((z : Int) == (z : Int)) = true := by simp
  have hrow := heap_alloc_new w1 (.cells #[.pointer (some ⟨X, 0, none⟩), .pointer (some ⟨R, 0, none⟩)] 25)
  have k0 := row_cell hrow 0
  have k1 := row_cell hrow 1
  simp only [List.getElem?_toArray, List.getElem?_cons_zero, List.getElem?_cons_succ] at k0 k1
  clear hrow
  refine hid ?_
  go_wp2_with fail
  go_region_held3 (fun w' => w'.cell? ⟨w1.heap.size, 0, none⟩ = some (.pointer (some ⟨X, 0, none⟩)) ∧ w'.cell? ⟨w1.heap.size, 1, none⟩ = some (.pointer (some ⟨R, 0, none⟩))) (go_keep) (first | (go_at_call 13; with_reducible refine hH.mono ?_; rintro e w9 ⟨rfl, rfl⟩) | (go_at_call 14; with_reducible refine hG.mono ?_; rintro e w9 ⟨rfl, rfl⟩))
  go_wp2_with fail
  go_ret
  exact ⟨rfl, btr HB.out (btr HBB.out (below_drews rfl rfl rfl rfl))⟩
theorem indexHomes_walk (a : Int) (ha : -9223372036854775808 ≤ a ∧ a < 9223372036854775808) (k : Int) (hk : 0 ≤ k ∧ k ≤ 18446744073709551615) (w : World) :
    Calls Try.prog 4 #[.int .i64 a, .int .u64 k] w fun e w' => e = .returned (.bool true) ∧ Below w.heap.size w w' := by
  by_cases h : a < 1 ∨ 65536 < a
  · exact homes_bad h k w
  · obtain ⟨r, rfl⟩ := Int.eq_ofNat_of_zero_le (show 0 ≤ a by omega)
    exact homes_any (by omega) (by omega) k w
end Go.Proofs.Ythidnipmkffilaa
