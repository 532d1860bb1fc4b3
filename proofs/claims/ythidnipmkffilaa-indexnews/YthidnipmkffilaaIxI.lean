/-
  IndexNews, whatever comes in.
-/
import Derived.Test.YthidnipmkffilaaIxH
namespace Go.Proofs.Ythidnipmkffilaa
open Go.RowKit Go.Deep
set_option linter.unusedVariables false
set_option linter.unusedSimpArgs false
set_option maxHeartbeats 1000000 in
set_option maxRecDepth 100000 in
theorem news_bad {room : Int} (h : room < 1 ∨ 65536 < room) (w : World) :
    Calls Try.prog 3 #[.int .i64 room] w fun e w' => e = .returned (.bool true) ∧ Below w.heap.size w w' := by
  have HM := hid (made_bad h w)
  clear h
  go_enter Try.func3, Try.ntmps3
  go_wp2_with (first | (go_at_call 9; with_reducible refine (HM.out).mono ?_; rintro e w1 ⟨rfl, hB⟩; have HB := hid hB; clear hB; refine Hid.out ?_))
  refine hid ?_
  go_wp2_with fail
  go_ret
  exact ⟨rfl, btr HB.out (ball _ _)⟩
set_option maxHeartbeats 4000000 in
set_option maxRecDepth 100000 in
theorem news_any {room : Nat} (h1 : 1 ≤ room) (h2 : room ≤ 65536) (w : World) :
    Calls Try.prog 3 #[.int .i64 room] w fun e w' => e = .returned (.bool true) ∧ Below w.heap.size w w' := by
  have HM := hid (made_any h1 h2 w)
  clear h1 h2
  go_enter Try.func3, Try.ntmps3
  go_wp2_with (first | (go_at_call 9; with_reducible refine (HM.out).mono ?_; rintro e w1 ⟨X, P, R, Q, rfl, hL, hR, hX, hP, hR', hQ', hB⟩; have HB := hid hB; have HL := hid hL; have HR := hid hR; clear hB hL hR hX hP hR' hQ'; refine Hid.out ?_))
  have hbb := ball w1 (.cells #[.pointer (some ⟨X, 0, none⟩), .pointer (some ⟨R, 0, none⟩)] 25)
  have HBB := hid hbb
  have HL2 := hid (HL.out.kp (Kp.ofBelow (fun _ => False) hbb) (fun h => h) (fun h => h)).drew
  have HR2 := hid (HR.out.kp (Kp.ofBelow (fun _ => False) hbb) (fun h => h) (fun h => h)).drew
  have hrow := heap_alloc_new w1 (.cells #[.pointer (some ⟨X, 0, none⟩), .pointer (some ⟨R, 0, none⟩)] 25)
  have k0 := row_cell hrow 0
  have k1 := row_cell hrow 1
  simp only [List.getElem?_toArray, List.getElem?_cons_zero, List.getElem?_cons_succ] at k0 k1
  have k2 := (HR.out.kp (Kp.ofBelow (fun _ => False) hbb) (fun h => h) (fun h => h)).cells.2.2
  have HRW := hid (show (w1.alloc (.cells #[.pointer (some ⟨X, 0, none⟩), .pointer (some ⟨R, 0, none⟩)] 25)).drew.heap[w1.heap.size]? = some (.cells #[.pointer (some ⟨X, 0, none⟩), .pointer (some ⟨R, 0, none⟩)] 25 (0, 0)) from hrow)
  clear hrow hbb
  have hcn : Ix.cnt Ix.nil (pn room) = 0 := Ix.cnt_nil _
  obtain ⟨n, hn⟩ : ∃ n, pn room = n := ⟨_, rfl⟩
  rw [hn] at HL HR HL2 HR2 k2 hcn
  have HCN := hid hcn
  clear hn hcn
  have kr : ((room : Int) == (room : Int)) = true := by simp
  have kn : ((n : Int) == (n : Int)) = true := by simp
  have hH : ∀ u, Lx u X P n room Ix.nil → Calls Try.prog 13 #[.pointer (some ⟨X, 0, none⟩), .int .u64 9223372036854775813] u fun e w' => e = .returned (.int .i64 (hm n 9223372036854775813)) ∧ w' = u := fun u hu => Home_any hu _
  have hG : ∀ u, Rx u R Q n room Ix.nil → Calls Try.prog 14 #[.pointer (some ⟨R, 0, none⟩), .int .u64 9223372036854775813] u fun e w' => e = .returned (.int .i64 (hm n 9223372036854775813)) ∧ w' = u := fun u hu => RHome_any hu _
  have hN : ∀ u, Lx u X P n room Ix.nil → Calls Try.prog 11 #[.pointer (some ⟨X, 0, none⟩)] u fun e w' => e = .returned (.int .i64 0) ∧ w' = u := fun u hu => by
    have := len_any hu
    rw [HCN.out] at this
    exact this
  generalize hm n 9223372036854775813 = z at *
  have kz : ((z : Int) == (z : Int)) = true := by simp
  have HH := hid hH
  have HG := hid hG
  have HN := hid hN
  clear hH hG hN
  refine hid ?_
  go_wp2_with fail
  go_region_held3 (fun w' => w'.cell? ⟨w1.heap.size, 0, none⟩ = some (.pointer (some ⟨X, 0, none⟩)) ∧ w'.cell? ⟨w1.heap.size, 1, none⟩ = some (.pointer (some ⟨R, 0, none⟩)) ∧ w'.cell? ⟨R, 2, none⟩ = some (.slice (some ⟨Q, 0, none⟩) n n)) (go_keep) (first | (go_at_call 10; with_reducible refine (room_any HL2.out).mono ?_; rintro e w9 ⟨rfl, rfl⟩) | (go_at_call 11; with_reducible refine (HN.out _ HL2.out).mono ?_; rintro e w9 ⟨rfl, rfl⟩) | (go_at_call 12; with_reducible refine (slots_any HL2.out).mono ?_; rintro e w9 ⟨S, rfl, hS, hSl, hb9⟩; replace HL2 := hid (HL2.out.kp (Kp.ofBelow (fun _ => False) hb9) (fun h => h) (fun h => h)); replace HR2 := hid (HR2.out.kp (Kp.ofBelow (fun _ => False) hb9) (fun h => h) (fun h => h)); replace HRW := hid (row_on HRW.out hb9); have k0 := row_cell HRW.out 0; have k1 := row_cell HRW.out 1; simp only [List.getElem?_toArray, List.getElem?_cons_zero, List.getElem?_cons_succ] at k0 k1; have k2 := HR2.out.cells.2.2; have HB9 := hid hb9; clear hb9 hSl hS) | (go_at_call 13; with_reducible refine (HH.out _ HL2.out).mono ?_; rintro e w8 ⟨rfl, rfl⟩) | (go_at_call 14; with_reducible refine (HG.out _ HR2.out).mono ?_; rintro e w8 ⟨rfl, rfl⟩))
  go_wp2_with fail
  go_ret
  exact ⟨rfl, btr HB.out (btr HBB.out (btr (b := (w1.alloc (.cells #[.pointer (some ⟨X, 0, none⟩), .pointer (some ⟨R, 0, none⟩)] 25)).drew) (below_drews rfl rfl rfl rfl) HB9.out))⟩
theorem indexNews_walk (a : Int) (ha : -9223372036854775808 ≤ a ∧ a < 9223372036854775808) (w : World) :
    Calls Try.prog 3 #[.int .i64 a] w fun e w' => e = .returned (.bool true) ∧ Below w.heap.size w w' := by
  by_cases h : a < 1 ∨ 65536 < a
  · exact news_bad h w
  · obtain ⟨r, rfl⟩ := Int.eq_ofNat_of_zero_le (show 0 ≤ a by omega)
    exact news_any (by omega) (by omega) w
end Go.Proofs.Ythidnipmkffilaa
