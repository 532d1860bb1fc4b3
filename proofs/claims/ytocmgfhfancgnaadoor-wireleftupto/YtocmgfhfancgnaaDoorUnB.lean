/-
  WireUnpacks: the walk.
-/
import Derived.Test.YtocmgfhfancgnaaDoorRefC
import Derived.Test.YtocmgfhfancgnaaDoorEqF
namespace Go.Proofs.YtocmgfhfancgnaaDoor
open Go.RowKit Go.Deep Crc
set_option linter.unusedVariables false
set_option linter.unusedSimpArgs false

/-- what Unpack answers. -/
def UnpR (xs : List Nat) (V : Value) (E : Int) : Prop :=
  (xs.length < 64 ∧ V = .agg fz ∧ E = 20) ∨ (64 < xs.length ∧ V = .agg fz ∧ E = 2) ∨ (xs.length = 64 ∧ ¬ headed xs ∧ V = .agg fz ∧ E = 22) ∨
  (xs.length = 64 ∧ headed xs ∧ ¬ xs = again xs ∧ V = .agg fz ∧ E = 21) ∨ (xs.length = 64 ∧ headed xs ∧ xs = again xs ∧ V = readV xs ∧ E = 0)
theorem UnpR.one {xs : List Nat} {V V' : Value} {E E' : Int} (h : UnpR xs V E) (h' : UnpR xs V' E') : V = V' ∧ E = E' := by
  rcases h with ⟨a, rfl, rfl⟩ | ⟨a, rfl, rfl⟩ | ⟨a, b, rfl, rfl⟩ | ⟨a, b, c, rfl, rfl⟩ | ⟨a, b, c, rfl, rfl⟩ <;>
    rcases h' with ⟨a', rfl, rfl⟩ | ⟨a', rfl, rfl⟩ | ⟨a', b', rfl, rfl⟩ | ⟨a', b', c', rfl, rfl⟩ | ⟨a', b', c', rfl, rfl⟩ <;>
    first | exact ⟨rfl, rfl⟩ | (exfalso; omega) | (exfalso; exact b b') | (exfalso; exact b' b) | (exfalso; exact c c') | (exfalso; exact c' c)
theorem UnpR.form {xs : List Nat} {V : Value} {E : Int} (h : UnpR xs V E) : ∃ k a0 a1 a2 a3 a4 a5 a6 : Nat, V = .agg #[.int .u8 (k : Nat), .int .u64 (a0 : Nat), .int .u64 (a1 : Nat), .int .u64 (a2 : Nat), .int .u64 (a3 : Nat), .int .u64 (a4 : Nat), .int .u64 (a5 : Nat), .int .u64 (a6 : Nat)] := by
  rcases h with ⟨a, rfl, rfl⟩ | ⟨a, rfl, rfl⟩ | ⟨a, b, rfl, rfl⟩ | ⟨a, b, c, rfl, rfl⟩ | ⟨a, b, c, rfl, rfl⟩
  · exact ⟨0, 0, 0, 0, 0, 0, 0, 0, rfl⟩
  · exact ⟨0, 0, 0, 0, 0, 0, 0, 0, rfl⟩
  · exact ⟨0, 0, 0, 0, 0, 0, 0, 0, rfl⟩
  · exact ⟨0, 0, 0, 0, 0, 0, 0, 0, rfl⟩
  · exact ⟨_, _, _, _, _, _, _, _, rfl⟩
theorem UnpR.of {xs : List Nat} {e : Ending} (hl : xs.length = 64) (h : UnpP xs e) : ∃ V E, e = .returned (.tuple #[V, .int .i64 E]) ∧ UnpR xs V E := by
  rcases h with ⟨a, rfl⟩ | ⟨a, b, rfl⟩ | ⟨a, b, rfl⟩
  · exact ⟨_, _, rfl, Or.inr (Or.inr (Or.inl ⟨hl, a, rfl, rfl⟩))⟩
  · exact ⟨_, _, rfl, Or.inr (Or.inr (Or.inr (Or.inl ⟨hl, a, b, rfl, rfl⟩)))⟩
  · exact ⟨_, _, rfl, Or.inr (Or.inr (Or.inr (Or.inr ⟨hl, a, b, rfl, rfl⟩)))⟩
theorem unp_rel (v : Value) (xs : List Nat) (w : World) (hl : xs.length < 9223372036854775808) (hx : Oct xs) (hS : Sl w v xs) (hL : Laid w) :
    Calls Tryd.prog 15 #[v] w fun e w' => (∃ V E, e = .returned (.tuple #[V, .int .i64 E]) ∧ UnpR xs V E) ∧ Below w.heap.size w w' := by
  have short : ∀ p cap, xs.length < 64 → Calls Tryd.prog 15 #[.slice p xs.length cap] w fun e w' => (∃ V E, e = .returned (.tuple #[V, .int .i64 E]) ∧ UnpR xs V E) ∧ Below w.heap.size w w' := by
    intro p cap h
    refine (unpack_short p xs.length cap w h).mono ?_
    rintro e w' ⟨rfl, hb⟩
    exact ⟨⟨_, _, rfl, Or.inl ⟨h, rfl, rfl⟩⟩, hb⟩
  rcases hS with ⟨rfl, p, cap, rfl⟩ | ⟨b, o, cap, rfl, hB⟩
  · exact short p cap (by decide)
  · by_cases h1 : xs.length < 64
    · exact short _ cap h1
    · by_cases h2 : 64 < xs.length
      · refine (unpack_long (some ⟨b, o, none⟩) xs.length cap w h2 hl).mono ?_
        rintro e w' ⟨rfl, hb⟩
        exact ⟨⟨_, _, rfl, Or.inr (Or.inl ⟨h2, rfl, rfl⟩)⟩, hb⟩
      · have h64 : xs.length = 64 := by omega
        rw [h64]
        refine (unpack_whole xs b o cap w h64 hx hB hL).mono ?_
        rintro e w' ⟨h, hb⟩
        exact ⟨UnpR.of h64 h, hb⟩
theorem runp_rel (v : Value) (xs : List Nat) (w : World) (hl : xs.length < 9223372036854775808) (hx : Oct xs) (hS : Sl w v xs) :
    Calls Tryd.prog 16 #[v] w fun e w' => (∃ V E, e = .returned (.tuple #[V, .int .i64 E]) ∧ UnpR xs V E) ∧ Below w.heap.size w w' := by
  have short : ∀ p cap, xs.length < 64 → Calls Tryd.prog 16 #[.slice p xs.length cap] w fun e w' => (∃ V E, e = .returned (.tuple #[V, .int .i64 E]) ∧ UnpR xs V E) ∧ Below w.heap.size w w' := by
    intro p cap h
    refine (runpack_short p xs.length cap w h).mono ?_
    rintro e w' ⟨rfl, hb⟩
    exact ⟨⟨_, _, rfl, Or.inl ⟨h, rfl, rfl⟩⟩, hb⟩
  rcases hS with ⟨rfl, p, cap, rfl⟩ | ⟨b, o, cap, rfl, hB⟩
  · exact short p cap (by decide)
  · by_cases h1 : xs.length < 64
    · exact short _ cap h1
    · by_cases h2 : 64 < xs.length
      · refine (runpack_long (some ⟨b, o, none⟩) xs.length cap w h2 hl).mono ?_
        rintro e w' ⟨rfl, hb⟩
        exact ⟨⟨_, _, rfl, Or.inr (Or.inl ⟨h2, rfl, rfl⟩)⟩, hb⟩
      · have h64 : xs.length = 64 := by omega
        rw [h64]
        refine (runpack_whole xs b o cap w h64 hx hB).mono ?_
        rintro e w' ⟨h, hb⟩
        exact ⟨UnpR.of h64 h, hb⟩

set_option maxHeartbeats 1000000 in
set_option maxRecDepth 100000 in
theorem unps_walk (v : Value) (xs : List Nat) (w : World) (hn : xs.length ≤ 140737488351232) (hx : Oct xs) (hS : Sx w v xs) (hL : Laid w) :
    Calls Tryd.prog 5 #[v] w fun e w' => e = .returned (.bool true) ∧ Below w.heap.size w w' := by
  obtain ⟨p, c, rfl⟩ := hS.form
  have HS := hid hS
  have HL := hid hL
  have HX := hid hx
  clear hS hL hx
  go_enter Tryd.func5, Tryd.ntmps5
  go_wp2_with fail
  refine (hand_any _ xs w hn HS.out).mono ?_
  rintro e w1 ⟨g, cap, rfl, hM, hb⟩
  have HM := hid hM
  have HB := hid hb
  have n1 : (xs.length : Int) ≤ (cap : Int) := by have := hM.room.1; omega
  have n2 : (0 : Int) ≤ (xs.length : Int) := by omega
  clear hM hb
  go_wp2_with fail
  refine (unp_rel _ xs w1 (by omega) HX.out (Or.inr ⟨g, 0, cap, rfl, bs_front HM.out.bs⟩) (laid_to HL.out HB.out)).mono ?_
  rintro e w2 ⟨⟨V, E, rfl, hU⟩, hb⟩
  have HU := hid hU
  obtain ⟨k, a0, a1, a2, a3, a4, a5, a6, rfl⟩ := hU.form
  have hb2 := bal hb (.cells #[.int .u8 (k : Nat), .int .u64 (a0 : Nat), .int .u64 (a1 : Nat), .int .u64 (a2 : Nat), .int .u64 (a3 : Nat), .int .u64 (a4 : Nat), .int .u64 (a5 : Nat), .int .u64 (a6 : Nat)] 31)
  have HM2 := hid (HM.out.to hb2)
  have HB2 := hid (btr HB.out hb2)
  have HG2 := hid (show (w2.alloc (.cells #[.int .u8 (k : Nat), .int .u64 (a0 : Nat), .int .u64 (a1 : Nat), .int .u64 (a2 : Nat), .int .u64 (a3 : Nat), .int .u64 (a4 : Nat), .int .u64 (a5 : Nat), .int .u64 (a6 : Nat)] 31)).heap[w2.heap.size]? = some (.cells #[.int .u8 (k : Nat), .int .u64 (a0 : Nat), .int .u64 (a1 : Nat), .int .u64 (a2 : Nat), .int .u64 (a3 : Nat), .int .u64 (a4 : Nat), .int .u64 (a5 : Nat), .int .u64 (a6 : Nat)] 31 (0, 0)) from heap_alloc_new _ _)
  clear hU hb hb2 HM HB
  obtain ⟨W2, hW2⟩ : ∃ W, w2.alloc (.cells #[.int .u8 (k : Nat), .int .u64 (a0 : Nat), .int .u64 (a1 : Nat), .int .u64 (a2 : Nat), .int .u64 (a3 : Nat), .int .u64 (a4 : Nat), .int .u64 (a5 : Nat), .int .u64 (a6 : Nat)] 31) = W := ⟨_, rfl⟩
  rw [hW2] at HM2 HB2 HG2
  go_wp2_with fail
  refine (runp_rel _ xs W2 (by omega) HX.out (HS.out.to HB2.out).sl).mono ?_
  rintro e w3 ⟨⟨V', E', rfl, hU'⟩, hb⟩
  obtain ⟨rfl, rfl⟩ := HU.out.one hU'
  have hl2 : w2.heap.size < W2.heap.size := (Array.getElem?_eq_some_iff.1 HG2.out).1
  have hl3 : W2.heap.size ≤ w3.heap.size := hb.size
  have hb3 := bal hb (.cells #[.int .u8 (k : Nat), .int .u64 (a0 : Nat), .int .u64 (a1 : Nat), .int .u64 (a2 : Nat), .int .u64 (a3 : Nat), .int .u64 (a4 : Nat), .int .u64 (a5 : Nat), .int .u64 (a6 : Nat)] 31)
  have HM3 := hid (HM2.out.to hb3)
  have HB3 := hid (btr HB2.out hb3)
  have HG3 := hid (show (w3.alloc (.cells #[.int .u8 (k : Nat), .int .u64 (a0 : Nat), .int .u64 (a1 : Nat), .int .u64 (a2 : Nat), .int .u64 (a3 : Nat), .int .u64 (a4 : Nat), .int .u64 (a5 : Nat), .int .u64 (a6 : Nat)] 31)).heap[w3.heap.size]? = some (.cells #[.int .u8 (k : Nat), .int .u64 (a0 : Nat), .int .u64 (a1 : Nat), .int .u64 (a2 : Nat), .int .u64 (a3 : Nat), .int .u64 (a4 : Nat), .int .u64 (a5 : Nat), .int .u64 (a6 : Nat)] 31 (0, 0)) from heap_alloc_new _ _)
  have HH3 := hid (show (w3.alloc (.cells #[.int .u8 (k : Nat), .int .u64 (a0 : Nat), .int .u64 (a1 : Nat), .int .u64 (a2 : Nat), .int .u64 (a3 : Nat), .int .u64 (a4 : Nat), .int .u64 (a5 : Nat), .int .u64 (a6 : Nat)] 31)).heap[w2.heap.size]? = some (.cells #[.int .u8 (k : Nat), .int .u64 (a0 : Nat), .int .u64 (a1 : Nat), .int .u64 (a2 : Nat), .int .u64 (a3 : Nat), .int .u64 (a4 : Nat), .int .u64 (a5 : Nat), .int .u64 (a6 : Nat)] 31 (0, 0)) by rw [heap_alloc_old _ _ (by omega), blk_to hb hl2]; exact HG2.out)
  clear hU' hb hb3 HM2 HG2 hW2
  obtain ⟨W3, hW3⟩ : ∃ W, w3.alloc (.cells #[.int .u8 (k : Nat), .int .u64 (a0 : Nat), .int .u64 (a1 : Nat), .int .u64 (a2 : Nat), .int .u64 (a3 : Nat), .int .u64 (a4 : Nat), .int .u64 (a5 : Nat), .int .u64 (a6 : Nat)] 31) = W := ⟨_, rfl⟩
  rw [hW3] at HM3 HB3 HG3 HH3
  have c0 : W3.cell? ⟨w2.heap.size, 0, none⟩ = some (.int .u8 (k : Nat)) := by rw [cell_of_row W3 _ _ _ _ _ HH3.out]; rfl
  have d0 : W3.cell? ⟨w3.heap.size, 0, none⟩ = some (.int .u8 (k : Nat)) := by rw [cell_of_row W3 _ _ _ _ _ HG3.out]; rfl
  have c1 : W3.cell? ⟨w2.heap.size, 1, none⟩ = some (.int .u64 (a0 : Nat)) := by rw [cell_of_row W3 _ _ _ _ _ HH3.out]; rfl
  have d1 : W3.cell? ⟨w3.heap.size, 1, none⟩ = some (.int .u64 (a0 : Nat)) := by rw [cell_of_row W3 _ _ _ _ _ HG3.out]; rfl
  have c2 : W3.cell? ⟨w2.heap.size, 2, none⟩ = some (.int .u64 (a1 : Nat)) := by rw [cell_of_row W3 _ _ _ _ _ HH3.out]; rfl
  have d2 : W3.cell? ⟨w3.heap.size, 2, none⟩ = some (.int .u64 (a1 : Nat)) := by rw [cell_of_row W3 _ _ _ _ _ HG3.out]; rfl
  have c3 : W3.cell? ⟨w2.heap.size, 3, none⟩ = some (.int .u64 (a2 : Nat)) := by rw [cell_of_row W3 _ _ _ _ _ HH3.out]; rfl
  have d3 : W3.cell? ⟨w3.heap.size, 3, none⟩ = some (.int .u64 (a2 : Nat)) := by rw [cell_of_row W3 _ _ _ _ _ HG3.out]; rfl
  have c4 : W3.cell? ⟨w2.heap.size, 4, none⟩ = some (.int .u64 (a3 : Nat)) := by rw [cell_of_row W3 _ _ _ _ _ HH3.out]; rfl
  have d4 : W3.cell? ⟨w3.heap.size, 4, none⟩ = some (.int .u64 (a3 : Nat)) := by rw [cell_of_row W3 _ _ _ _ _ HG3.out]; rfl
  have c5 : W3.cell? ⟨w2.heap.size, 5, none⟩ = some (.int .u64 (a4 : Nat)) := by rw [cell_of_row W3 _ _ _ _ _ HH3.out]; rfl
  have d5 : W3.cell? ⟨w3.heap.size, 5, none⟩ = some (.int .u64 (a4 : Nat)) := by rw [cell_of_row W3 _ _ _ _ _ HG3.out]; rfl
  have c6 : W3.cell? ⟨w2.heap.size, 6, none⟩ = some (.int .u64 (a5 : Nat)) := by rw [cell_of_row W3 _ _ _ _ _ HH3.out]; rfl
  have d6 : W3.cell? ⟨w3.heap.size, 6, none⟩ = some (.int .u64 (a5 : Nat)) := by rw [cell_of_row W3 _ _ _ _ _ HG3.out]; rfl
  have c7 : W3.cell? ⟨w2.heap.size, 7, none⟩ = some (.int .u64 (a6 : Nat)) := by rw [cell_of_row W3 _ _ _ _ _ HH3.out]; rfl
  have d7 : W3.cell? ⟨w3.heap.size, 7, none⟩ = some (.int .u64 (a6 : Nat)) := by rw [cell_of_row W3 _ _ _ _ _ HG3.out]; rfl
  have q := eqF (k : Nat) (a0 : Nat) (a1 : Nat) (a2 : Nat) (a3 : Nat) (a4 : Nat) (a5 : Nat) (a6 : Nat)
  go_wp2_with fail
  refine (left_any g cap _ xs w W3 hn HM3.out (HS.out.to HB3.out)).mono ?_
  rintro e w4 ⟨rfl, hb⟩
  have HB4 := hid (HB3.out.trans hb)
  clear hb q hW3
  go_wp2
  go_ret
  exact ⟨rfl, HB4.out⟩
end Go.Proofs.YtocmgfhfancgnaaDoor
