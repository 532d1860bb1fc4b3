/-
  The document's second example.
-/
import Derived.Test.YtehjmdolmkbncaaIxN
namespace Go.Proofs.Ytehjmdolmkbncaa
open Go.RowKit Go.Deep
set_option linter.unusedVariables false
set_option linter.unusedSimpArgs false
abbrev t1 : Ix.Tab := Ix.up Ix.nil 0 (some (0, 7))
abbrev t2 : Ix.Tab := Ix.up t1 1 (some (2, 8))
theorem pn2 : pn 2 = 4 := by decide +kernel
theorem hm0 : hm 4 0 = 0 := by decide +kernel
theorem hm2 : hm 4 2 = 0 := by decide +kernel
theorem hm5 : hm 4 5 = 0 := by decide +kernel
theorem fdA : Ix.Fd 4 (hm 4) Ix.nil 0 0 := ⟨by omega, fun j hj h => by rw [hm0, Ix.ds_self] at h; omega, .inl rfl⟩
theorem ds0 {j : Nat} (m : Nat) (h : Ix.ds 4 0 j < Ix.ds 4 0 m) (hm : m < 4) : j < m := by
  have := Ix.ds_eq 4 0 j; have := Ix.ds_eq 4 0 m; omega
theorem fdB : Ix.Fd 4 (hm 4) t1 2 1 := ⟨by omega, fun j hj h => by
  rw [hm2] at h
  have := ds0 1 h (by omega)
  obtain rfl : j = 0 := by omega
  exact ⟨0, 7, rfl, by decide⟩, .inl rfl⟩
theorem fdC : Ix.Fd 4 (hm 4) t2 2 1 := ⟨by omega, fun j hj h => by
  rw [hm2] at h
  have := ds0 1 h (by omega)
  obtain rfl : j = 0 := by omega
  exact ⟨0, 7, rfl, by decide⟩, .inr ⟨8, rfl⟩⟩
theorem fdD : Ix.Fd 4 (hm 4) t2 5 2 := ⟨by omega, fun j hj h => by
  rw [hm5] at h
  have := ds0 2 h (by omega)
  rcases (show j = 0 ∨ j = 1 by omega) with rfl | rfl
  · exact ⟨0, 7, rfl, by decide⟩
  · exact ⟨2, 8, rfl, by decide⟩, .inl rfl⟩
theorem tidy2 : Ix.Tidy 4 (hm 4) t2 := ((Ix.tidy_nil 4 (hm 4)).put 7 (hm_lt (by omega) _) fdA rfl).put 8 (hm_lt (by omega) _) fdB rfl
theorem cnt1 : Ix.cnt Ix.nil 4 = 0 := rfl
theorem cnt2 : Ix.cnt t1 4 = 1 := rfl
theorem cnt3 : Ix.cnt t2 4 = 2 := rfl
theorem dr0 : Ix.dr 4 (hm 4) t2 0 0 = some (2, 8) := by decide +kernel
theorem dr1 : Ix.dr 4 (hm 4) t2 0 1 = none := by decide +kernel
set_option maxHeartbeats 4000000 in
set_option maxRecDepth 100000 in
theorem lives_any (w : World) :
    Calls Try.prog 18 #[] w fun e w' => e = .returned (.bool true) ∧ Below w.heap.size w w' := by
  have h0 := new_any (room := 2) (by omega) (by omega) w
  rw [pn2] at h0
  have HN : Hid (Calls Try.prog 17 #[.int .i64 2] w _) := hid h0
  clear h0
  go_enter Try.func18, Try.ntmps18
  go_wp2_with (first | (go_at_call 17; with_reducible refine (HN.out).mono ?_; rintro e w1 ⟨X, P, rfl, hL, hX, hP, hB⟩; have HL := hid hL; have HB := hid hB; have HXP := hid (And.intro hX hP); clear hL hB hX hP; refine Hid.out ?_))
  have HP1 := hid (put_new HL.out 7 (by omega) (by omega) fdA rfl (by rw [cnt1]; omega))
  have HP2 : Hid (∀ u, Lx u X P 4 2 t1 → _) := hid (fun u (hu : Lx u X P 4 2 t1) => put_new hu 8 (by omega) (by omega) fdB rfl (by rw [cnt2]; omega))
  have HP3 : Hid (∀ u, Lx u X P 4 2 t2 → _) := hid (fun u (hu : Lx u X P 4 2 t2) => put_there hu 9 fdC rfl)
  have HP4 : Hid (∀ u, Lx u X P 4 2 t2 → _) := hid (fun u (hu : Lx u X P 4 2 t2) => put_full hu 9 fdD rfl cnt3)
  have HP5 : Hid (∀ u, Lx u X P 4 2 t2 → _) := hid (fun u (hu : Lx u X P 4 2 t2) => drop_there hu tidy2 (i := 0) (k := 0) (v := 7) (by omega) rfl)
  refine hid ?_
  go_wp2_with (first | (go_at_call 20; with_reducible refine (HP1.out).mono ?_; rintro e w2 ⟨rfl, hL, hk⟩; have HL1 := hid (show Lx w2 X P 4 2 t1 from hL); have HK1 := hid hk; clear hL hk; refine Hid.out ?_))
  refine hid ?_
  go_wp2_with (first | (go_at_call 20; with_reducible refine (HP2.out _ HL1.out).mono ?_; rintro e w3 ⟨rfl, hL, hk⟩; have HL2 := hid (show Lx w3 X P 4 2 t2 from hL); have HK2 := hid hk; clear hL hk; refine Hid.out ?_))
  refine hid ?_
  go_wp2_with (first | (go_at_call 20; with_reducible refine (HP3.out _ HL2.out).mono ?_; rintro e w4 ⟨rfl, hk⟩; have HL3 := hid (HL2.out.kp hk (fun h => h) (fun h => h)); have HK3 := hid hk; clear hk; refine Hid.out ?_))
  refine hid ?_
  go_wp2_with (first | (go_at_call 20; with_reducible refine (HP4.out _ HL3.out).mono ?_; rintro e w5 ⟨rfl, hk⟩; have HL4 := hid (HL3.out.kp hk (fun h => h) (fun h => h)); have HK4 := hid hk; clear hk; refine Hid.out ?_))
  refine hid ?_
  go_wp2_with (first | (go_at_call 19; with_reducible refine (HP5.out _ HL4.out).mono ?_; rintro e w6 ⟨rfl, hL, -, -, -, hk⟩; have HL5 := hid hL; have HK5 := hid hk; clear hL hk; refine Hid.out ?_))
  refine hid ?_
  go_wp2_with (first | (go_at_call 12; with_reducible refine (slots_any HL5.out).mono ?_; rintro e w7 ⟨S, rfl, hS, hSl, hb⟩; have HS := hid hSl; have HB7 := hid hb; clear hSl hb hS; refine Hid.out ?_))
  obtain ⟨c0, c1⟩ := HS.out.cell (i := 0) (by omega) (by omega)
  obtain ⟨c2, c3⟩ := HS.out.cell (i := 1) (by omega) (by omega)
  rw [dr0] at c0 c1
  rw [dr1] at c2 c3
  simp only [eU, eK, Nat.zero_mul, Nat.zero_add, Nat.one_mul] at c0 c1 c2 c3
  refine hid ?_
  go_wp2_with fail
  go_ret
  have k := ((((HK1.out.trans HK2.out).trans (HK3.out.mono (fun _ _ h => h.elim))).trans (HK4.out.mono (fun _ _ h => h.elim))).trans HK5.out).trans (Kp.ofBelow _ HB7.out)
  have hxp := HXP.out
  exact ⟨rfl, HB.out.trans (k.below HB.out.size (fun g hg => by omega))⟩
end Go.Proofs.Ytehjmdolmkbncaa
