/-
  Contracts and plain facts, part 8.
-/
import Derived.Test.YtacdjioieclggaaDoorZg
namespace Go.Proofs.YtacdjioieclggaaDoor.Msg
open Go.ChangeShapes Go.WideShapes Go.ChangeAt Go.RowKit Go.Joins Go.Maps Go.Deep Go.Lib
set_option linter.unusedVariables false
set_option linter.unusedSimpArgs false
set_option maxRecDepth 100000
section
variable {H : Type} {enc : TypeId × Value → H} {W : World} {base b0 : Nat} {spare : Nat → Bool} {held : Bool} {r : Reach}
/-- an event that came in. -/
theorem open_evt {v : Value} {d : DataW H} {p : List MemPlace} (hv : Value.okWide Tryd.prog W r b0 30 v) (h : DataW.Trod enc Tryd.prog W base spare held 30 v d p) :
    ∃ x : Evt, v = .agg x.v ∧ x.Ok ∧ x.Rg := by
  obtain ⟨cs, rfl, hsz⟩ := okWide_struct Tryd.underlying30 hv
  rw [cells39] at hsz
  obtain ⟨fuel, hf⟩ := h
  obtain ⟨xs, m, _, _, _, hlen, hg0⟩ := DataW.trod_struct Tryd.underlying30 hf
  obtain ⟨l⟩ := cs
  match l, hsz with
  | [c0, c1, c2, c3, c4, c5, c6, c7, c8, c9, c10, c11, c12], _ =>
    have hg : ∀ (i : Nat) (f : Field), _ → DataW.trod enc Tryd.prog W base spare held m f.type (([c0, c1, c2, c3, c4, c5, c6, c7, c8, c9, c10, c11, c12].drop f.offset).take (Tryd.prog.cellsOf f.type)) = xs[i]? := hg0
    have g0 : DataW.trod enc Tryd.prog W base spare held m 22 (([c0, c1, c2, c3, c4, c5, c6, c7, c8, c9, c10, c11, c12].drop 0).take (Tryd.prog.cellsOf 22)) = xs[0]? := hg 0 _ rfl
    rw [List.getElem?_eq_getElem (by rw [hlen]; exact (by decide : 0 < 13)), cells22] at g0
    simp only [List.drop_zero, List.take_succ_cons, List.take_zero, List.drop_succ_cons] at g0
    obtain ⟨a0, e0, _, wf0⟩ := DataW.trod_int Tryd.underlying22 g0
    have g1 : DataW.trod enc Tryd.prog W base spare held m 3 (([c0, c1, c2, c3, c4, c5, c6, c7, c8, c9, c10, c11, c12].drop 1).take (Tryd.prog.cellsOf 3)) = xs[1]? := hg 1 _ rfl
    rw [List.getElem?_eq_getElem (by rw [hlen]; exact (by decide : 1 < 13)), cells3] at g1
    simp only [List.drop_zero, List.take_succ_cons, List.take_zero, List.drop_succ_cons] at g1
    obtain ⟨a1, e1, _, wf1⟩ := DataW.trod_int Tryd.underlying3 g1
    have g2 : DataW.trod enc Tryd.prog W base spare held m 22 (([c0, c1, c2, c3, c4, c5, c6, c7, c8, c9, c10, c11, c12].drop 2).take (Tryd.prog.cellsOf 22)) = xs[2]? := hg 2 _ rfl
    rw [List.getElem?_eq_getElem (by rw [hlen]; exact (by decide : 2 < 13)), cells22] at g2
    simp only [List.drop_zero, List.take_succ_cons, List.take_zero, List.drop_succ_cons] at g2
    obtain ⟨a2, e2, _, wf2⟩ := DataW.trod_int Tryd.underlying22 g2
    have g3 : DataW.trod enc Tryd.prog W base spare held m 22 (([c0, c1, c2, c3, c4, c5, c6, c7, c8, c9, c10, c11, c12].drop 3).take (Tryd.prog.cellsOf 22)) = xs[3]? := hg 3 _ rfl
    rw [List.getElem?_eq_getElem (by rw [hlen]; exact (by decide : 3 < 13)), cells22] at g3
    simp only [List.drop_zero, List.take_succ_cons, List.take_zero, List.drop_succ_cons] at g3
    obtain ⟨a3, e3, _, wf3⟩ := DataW.trod_int Tryd.underlying22 g3
    have g4 : DataW.trod enc Tryd.prog W base spare held m 22 (([c0, c1, c2, c3, c4, c5, c6, c7, c8, c9, c10, c11, c12].drop 4).take (Tryd.prog.cellsOf 22)) = xs[4]? := hg 4 _ rfl
    rw [List.getElem?_eq_getElem (by rw [hlen]; exact (by decide : 4 < 13)), cells22] at g4
    simp only [List.drop_zero, List.take_succ_cons, List.take_zero, List.drop_succ_cons] at g4
    obtain ⟨a4, e4, _, wf4⟩ := DataW.trod_int Tryd.underlying22 g4
    have g5 : DataW.trod enc Tryd.prog W base spare held m 23 (([c0, c1, c2, c3, c4, c5, c6, c7, c8, c9, c10, c11, c12].drop 5).take (Tryd.prog.cellsOf 23)) = xs[5]? := hg 5 _ rfl
    rw [List.getElem?_eq_getElem (by rw [hlen]; exact (by decide : 5 < 13)), cells23] at g5
    simp only [List.drop_zero, List.take_succ_cons, List.take_zero, List.drop_succ_cons] at g5
    obtain ⟨a5, e5, _, wf5⟩ := DataW.trod_int Tryd.underlying23 g5
    have g6 : DataW.trod enc Tryd.prog W base spare held m 3 (([c0, c1, c2, c3, c4, c5, c6, c7, c8, c9, c10, c11, c12].drop 6).take (Tryd.prog.cellsOf 3)) = xs[6]? := hg 6 _ rfl
    rw [List.getElem?_eq_getElem (by rw [hlen]; exact (by decide : 6 < 13)), cells3] at g6
    simp only [List.drop_zero, List.take_succ_cons, List.take_zero, List.drop_succ_cons] at g6
    obtain ⟨a6, e6, _, wf6⟩ := DataW.trod_int Tryd.underlying3 g6
    have g7 : DataW.trod enc Tryd.prog W base spare held m 3 (([c0, c1, c2, c3, c4, c5, c6, c7, c8, c9, c10, c11, c12].drop 7).take (Tryd.prog.cellsOf 3)) = xs[7]? := hg 7 _ rfl
    rw [List.getElem?_eq_getElem (by rw [hlen]; exact (by decide : 7 < 13)), cells3] at g7
    simp only [List.drop_zero, List.take_succ_cons, List.take_zero, List.drop_succ_cons] at g7
    obtain ⟨a7, e7, _, wf7⟩ := DataW.trod_int Tryd.underlying3 g7
    have g8 : DataW.trod enc Tryd.prog W base spare held m 3 (([c0, c1, c2, c3, c4, c5, c6, c7, c8, c9, c10, c11, c12].drop 8).take (Tryd.prog.cellsOf 3)) = xs[8]? := hg 8 _ rfl
    rw [List.getElem?_eq_getElem (by rw [hlen]; exact (by decide : 8 < 13)), cells3] at g8
    simp only [List.drop_zero, List.take_succ_cons, List.take_zero, List.drop_succ_cons] at g8
    obtain ⟨a8, e8, _, wf8⟩ := DataW.trod_int Tryd.underlying3 g8
    have g9 : DataW.trod enc Tryd.prog W base spare held m 22 (([c0, c1, c2, c3, c4, c5, c6, c7, c8, c9, c10, c11, c12].drop 9).take (Tryd.prog.cellsOf 22)) = xs[9]? := hg 9 _ rfl
    rw [List.getElem?_eq_getElem (by rw [hlen]; exact (by decide : 9 < 13)), cells22] at g9
    simp only [List.drop_zero, List.take_succ_cons, List.take_zero, List.drop_succ_cons] at g9
    obtain ⟨a9, e9, _, wf9⟩ := DataW.trod_int Tryd.underlying22 g9
    have g10 : DataW.trod enc Tryd.prog W base spare held m 22 (([c0, c1, c2, c3, c4, c5, c6, c7, c8, c9, c10, c11, c12].drop 10).take (Tryd.prog.cellsOf 22)) = xs[10]? := hg 10 _ rfl
    rw [List.getElem?_eq_getElem (by rw [hlen]; exact (by decide : 10 < 13)), cells22] at g10
    simp only [List.drop_zero, List.take_succ_cons, List.take_zero, List.drop_succ_cons] at g10
    obtain ⟨a10, e10, _, wf10⟩ := DataW.trod_int Tryd.underlying22 g10
    have g11 : DataW.trod enc Tryd.prog W base spare held m 3 (([c0, c1, c2, c3, c4, c5, c6, c7, c8, c9, c10, c11, c12].drop 11).take (Tryd.prog.cellsOf 3)) = xs[11]? := hg 11 _ rfl
    rw [List.getElem?_eq_getElem (by rw [hlen]; exact (by decide : 11 < 13)), cells3] at g11
    simp only [List.drop_zero, List.take_succ_cons, List.take_zero, List.drop_succ_cons] at g11
    obtain ⟨a11, e11, _, wf11⟩ := DataW.trod_int Tryd.underlying3 g11
    have g12 : DataW.trod enc Tryd.prog W base spare held m 28 (([c0, c1, c2, c3, c4, c5, c6, c7, c8, c9, c10, c11, c12].drop 12).take (Tryd.prog.cellsOf 28)) = xs[12]? := hg 12 _ rfl
    rw [List.getElem?_eq_getElem (by rw [hlen]; exact (by decide : 12 < 13)), cells31] at g12
    simp only [List.drop_zero, List.take_succ_cons, List.take_zero, List.drop_succ_cons] at g12
    obtain ⟨a12, e12, _, wf12⟩ := DataW.trod_int Tryd.underlying28 g12

    simp at e0 e1 e2 e3 e4 e5 e6 e7 e8 e9 e10 e11 e12
    subst e0 e1 e2 e3 e4 e5 e6 e7 e8 e9 e10 e11 e12
    have bd0 := bounds_u64 wf0
    have bd1 := bounds_i64 wf1
    have bd2 := bounds_u64 wf2
    have bd3 := bounds_u64 wf3
    have bd4 := bounds_u64 wf4
    have bd5 := bounds_u32 wf5
    have bd6 := bounds_i64 wf6
    have bd7 := bounds_i64 wf7
    have bd8 := bounds_i64 wf8
    have bd9 := bounds_u64 wf9
    have bd10 := bounds_u64 wf10
    have bd11 := bounds_i64 wf11
    have bd12 := bounds_i64 wf12

    exact ⟨⟨a0, a1, a2, a3, a4, a5, a6, a7, a8, a9, a10, a11, a12⟩, rfl, ⟨⟨bd0.1, by simp; omega⟩, ⟨bd2.1, by simp; omega⟩, ⟨bd3.1, by simp; omega⟩, ⟨bd4.1, by simp; omega⟩, ⟨bd5.1, by simp; omega⟩, ⟨bd9.1, by simp; omega⟩, ⟨bd10.1, by simp; omega⟩⟩, ⟨⟨bd6.1, by simp; omega⟩, ⟨bd7.1, by simp; omega⟩, ⟨bd8.1, by simp; omega⟩, ⟨bd11.1, by simp; omega⟩, ⟨bd12.1, by simp; omega⟩⟩⟩
end
end Go.Proofs.YtacdjioieclggaaDoor.Msg
namespace Go.Proofs.YtacdjioieclggaaDoor.Msg
open Go.RowKit Go.Deep Go.Lib
set_option linter.unusedVariables false
set_option linter.unusedSimpArgs false
theorem anW_mask {a : Int} (n : Nat) (h : Wd a) (hn : n ≤ 64) : anW a (2 ^ n - 1) = a % 2 ^ n := by
  obtain ⟨m, rfl⟩ : ∃ m : Nat, a = (m : Int) := ⟨a.toNat, by have := h.1; omega⟩
  have h2 := h.2
  have hp : 2 ^ n ≤ 2 ^ 64 := Nat.pow_le_pow_right (by decide) hn
  have h0 : 0 < 2 ^ n := Nat.pow_pos (by decide)
  have e : ((2 : Int) ^ n - 1) = ((2 ^ n - 1 : Nat) : Int) := by
    rw [Int.ofNat_sub h0]
    push_cast
    rfl
  unfold anW
  rw [e, u64_and_nat m (2 ^ n - 1) (by omega) (by omega), Nat.and_two_pow_sub_one_eq_mod]
  push_cast
  rfl
theorem an8 {a : Int} (h : Wd a) : anW a 255 = a % 256 := anW_mask 8 h (by decide)
theorem an32 {a : Int} (h : Wd a) : anW a 4294967295 = a % 4294967296 := anW_mask 32 h (by decide)
theorem an64 {a : Int} (h : Wd a) : anW a 18446744073709551615 = a := by
  have h2 := anW_mask 64 h (by decide)
  unfold Wd at h
  rw [show ((2 : Int) ^ 64 - 1) = 18446744073709551615 from rfl, show ((2 : Int) ^ 64) = 18446744073709551616 from rfl] at h2
  omega
theorem sh0 {a : Int} (h0 : 0 ≤ a) (h : a ≤ 18446744073709551615) : shW a 0 = a := by
  have := shW_small (a := a) 0 h0 (by simp; omega)
  simpa using this
theorem sh32 {a : Int} (h0 : 0 ≤ a) (h : a ≤ 4294967295) : shW a 32 = a * 4294967296 := shW_small (a := a) 32 h0 (by simp; omega)
theorem sh40 {a : Int} (h0 : 0 ≤ a) (h : a ≤ 255) : shW a 40 = a * 1099511627776 := shW_small (a := a) 40 h0 (by simp; omega)
theorem sh48 {a : Int} (h0 : 0 ≤ a) (h : a ≤ 255) : shW a 48 = a * 281474976710656 := shW_small (a := a) 48 h0 (by simp; omega)
theorem la_1 (f : Int → Int) (h11 : 0 ≤ f 11 ∧ f 11 ≤ 18446744073709551615) (h1 : 0 ≤ f 1 ∧ f 1 ≤ 4294967295) (h54 : 0 ≤ f 54 ∧ f 54 ≤ 255) (h40 : 0 ≤ f 40 ∧ f 40 ≤ 255) (h44 : 0 ≤ f 44 ∧ f 44 ≤ 4294967295) (h38 : 0 ≤ f 38 ∧ f 38 ≤ 18446744073709551615) (h210 : 0 ≤ f 210 ∧ f 210 ≤ 18446744073709551615) : laW 1 f (tagsL 1) = [f 11, 0, f 1 + f 54 * 4294967296 + f 40 * 1099511627776, f 44, f 38, f 210, 0] := by
  have s11 : shW (f 11) 0 = f 11 := sh0 h11.1 (by omega)
  have s1 : shW (f 1) 0 = f 1 := sh0 h1.1 (by omega)
  have s54 : shW (f 54) 32 = f 54 * 4294967296 := sh32 h54.1 (by omega)
  have s40 : shW (f 40) 40 = f 40 * 1099511627776 := sh40 h40.1 (by omega)
  have s44 : shW (f 44) 0 = f 44 := sh0 h44.1 (by omega)
  have s38 : shW (f 38) 0 = f 38 := sh0 h38.1 (by omega)
  have s210 : shW (f 210) 0 = f 210 := sh0 h210.1 (by omega)
  simp [laW, tagsL, lstep, zeros, plW, plU, plB, s11, s1, s54, s40, s44, s38, s210]
  try simp only [u64]
  try omega
theorem rd_1_11 (f : Int → Int) (h11 : 0 ≤ f 11 ∧ f 11 ≤ 18446744073709551615) (h1 : 0 ≤ f 1 ∧ f 1 ≤ 4294967295) (h54 : 0 ≤ f 54 ∧ f 54 ≤ 255) (h40 : 0 ≤ f 40 ∧ f 40 ≤ 255) (h44 : 0 ≤ f 44 ∧ f 44 ≤ 4294967295) (h38 : 0 ≤ f 38 ∧ f 38 ≤ 18446744073709551615) (h210 : 0 ≤ f 210 ∧ f 210 ≤ 18446744073709551615) : rdG 1 [f 11, 0, f 1 + f 54 * 4294967296 + f 40 * 1099511627776, f 44, f 38, f 210, 0] 11 = f 11 := by
  have e : rdG 1 [f 11, 0, f 1 + f 54 * 4294967296 + f 40 * 1099511627776, f 44, f 38, f 210, 0] 11 = anW ((f 11) / 2 ^ 0) 18446744073709551615 := rfl
  rw [e, show (2 : Int) ^ 0 = 1 from rfl, an64 (by unfold Wd; omega)]
  omega
theorem rd_1_1 (f : Int → Int) (h11 : 0 ≤ f 11 ∧ f 11 ≤ 18446744073709551615) (h1 : 0 ≤ f 1 ∧ f 1 ≤ 4294967295) (h54 : 0 ≤ f 54 ∧ f 54 ≤ 255) (h40 : 0 ≤ f 40 ∧ f 40 ≤ 255) (h44 : 0 ≤ f 44 ∧ f 44 ≤ 4294967295) (h38 : 0 ≤ f 38 ∧ f 38 ≤ 18446744073709551615) (h210 : 0 ≤ f 210 ∧ f 210 ≤ 18446744073709551615) : rdG 1 [f 11, 0, f 1 + f 54 * 4294967296 + f 40 * 1099511627776, f 44, f 38, f 210, 0] 1 = f 1 := by
  have e : rdG 1 [f 11, 0, f 1 + f 54 * 4294967296 + f 40 * 1099511627776, f 44, f 38, f 210, 0] 1 = anW ((f 1 + f 54 * 4294967296 + f 40 * 1099511627776) / 2 ^ 0) 4294967295 := rfl
  rw [e, show (2 : Int) ^ 0 = 1 from rfl, an32 (by unfold Wd; omega)]
  omega
theorem rd_1_54 (f : Int → Int) (h11 : 0 ≤ f 11 ∧ f 11 ≤ 18446744073709551615) (h1 : 0 ≤ f 1 ∧ f 1 ≤ 4294967295) (h54 : 0 ≤ f 54 ∧ f 54 ≤ 255) (h40 : 0 ≤ f 40 ∧ f 40 ≤ 255) (h44 : 0 ≤ f 44 ∧ f 44 ≤ 4294967295) (h38 : 0 ≤ f 38 ∧ f 38 ≤ 18446744073709551615) (h210 : 0 ≤ f 210 ∧ f 210 ≤ 18446744073709551615) : rdG 1 [f 11, 0, f 1 + f 54 * 4294967296 + f 40 * 1099511627776, f 44, f 38, f 210, 0] 54 = f 54 := by
  have e : rdG 1 [f 11, 0, f 1 + f 54 * 4294967296 + f 40 * 1099511627776, f 44, f 38, f 210, 0] 54 = anW ((f 1 + f 54 * 4294967296 + f 40 * 1099511627776) / 2 ^ 32) 255 := rfl
  rw [e, show (2 : Int) ^ 32 = 4294967296 from rfl, an8 (by unfold Wd; omega)]
  omega
theorem rd_1_40 (f : Int → Int) (h11 : 0 ≤ f 11 ∧ f 11 ≤ 18446744073709551615) (h1 : 0 ≤ f 1 ∧ f 1 ≤ 4294967295) (h54 : 0 ≤ f 54 ∧ f 54 ≤ 255) (h40 : 0 ≤ f 40 ∧ f 40 ≤ 255) (h44 : 0 ≤ f 44 ∧ f 44 ≤ 4294967295) (h38 : 0 ≤ f 38 ∧ f 38 ≤ 18446744073709551615) (h210 : 0 ≤ f 210 ∧ f 210 ≤ 18446744073709551615) : rdG 1 [f 11, 0, f 1 + f 54 * 4294967296 + f 40 * 1099511627776, f 44, f 38, f 210, 0] 40 = f 40 := by
  have e : rdG 1 [f 11, 0, f 1 + f 54 * 4294967296 + f 40 * 1099511627776, f 44, f 38, f 210, 0] 40 = anW ((f 1 + f 54 * 4294967296 + f 40 * 1099511627776) / 2 ^ 40) 255 := rfl
  rw [e, show (2 : Int) ^ 40 = 1099511627776 from rfl, an8 (by unfold Wd; omega)]
  omega
theorem rd_1_44 (f : Int → Int) (h11 : 0 ≤ f 11 ∧ f 11 ≤ 18446744073709551615) (h1 : 0 ≤ f 1 ∧ f 1 ≤ 4294967295) (h54 : 0 ≤ f 54 ∧ f 54 ≤ 255) (h40 : 0 ≤ f 40 ∧ f 40 ≤ 255) (h44 : 0 ≤ f 44 ∧ f 44 ≤ 4294967295) (h38 : 0 ≤ f 38 ∧ f 38 ≤ 18446744073709551615) (h210 : 0 ≤ f 210 ∧ f 210 ≤ 18446744073709551615) : rdG 1 [f 11, 0, f 1 + f 54 * 4294967296 + f 40 * 1099511627776, f 44, f 38, f 210, 0] 44 = f 44 := by
  have e : rdG 1 [f 11, 0, f 1 + f 54 * 4294967296 + f 40 * 1099511627776, f 44, f 38, f 210, 0] 44 = anW ((f 44) / 2 ^ 0) 4294967295 := rfl
  rw [e, show (2 : Int) ^ 0 = 1 from rfl, an32 (by unfold Wd; omega)]
  omega
theorem rd_1_38 (f : Int → Int) (h11 : 0 ≤ f 11 ∧ f 11 ≤ 18446744073709551615) (h1 : 0 ≤ f 1 ∧ f 1 ≤ 4294967295) (h54 : 0 ≤ f 54 ∧ f 54 ≤ 255) (h40 : 0 ≤ f 40 ∧ f 40 ≤ 255) (h44 : 0 ≤ f 44 ∧ f 44 ≤ 4294967295) (h38 : 0 ≤ f 38 ∧ f 38 ≤ 18446744073709551615) (h210 : 0 ≤ f 210 ∧ f 210 ≤ 18446744073709551615) : rdG 1 [f 11, 0, f 1 + f 54 * 4294967296 + f 40 * 1099511627776, f 44, f 38, f 210, 0] 38 = f 38 := by
  have e : rdG 1 [f 11, 0, f 1 + f 54 * 4294967296 + f 40 * 1099511627776, f 44, f 38, f 210, 0] 38 = anW ((f 38) / 2 ^ 0) 18446744073709551615 := rfl
  rw [e, show (2 : Int) ^ 0 = 1 from rfl, an64 (by unfold Wd; omega)]
  omega
theorem rd_1_210 (f : Int → Int) (h11 : 0 ≤ f 11 ∧ f 11 ≤ 18446744073709551615) (h1 : 0 ≤ f 1 ∧ f 1 ≤ 4294967295) (h54 : 0 ≤ f 54 ∧ f 54 ≤ 255) (h40 : 0 ≤ f 40 ∧ f 40 ≤ 255) (h44 : 0 ≤ f 44 ∧ f 44 ≤ 4294967295) (h38 : 0 ≤ f 38 ∧ f 38 ≤ 18446744073709551615) (h210 : 0 ≤ f 210 ∧ f 210 ≤ 18446744073709551615) : rdG 1 [f 11, 0, f 1 + f 54 * 4294967296 + f 40 * 1099511627776, f 44, f 38, f 210, 0] 210 = f 210 := by
  have e : rdG 1 [f 11, 0, f 1 + f 54 * 4294967296 + f 40 * 1099511627776, f 44, f 38, f 210, 0] 210 = anW ((f 210) / 2 ^ 0) 18446744073709551615 := rfl
  rw [e, show (2 : Int) ^ 0 = 1 from rfl, an64 (by unfold Wd; omega)]
  omega
theorem la_2 (f : Int → Int) (h41 : 0 ≤ f 41 ∧ f 41 ≤ 18446744073709551615) : laW 2 f (tagsL 2) = [0, f 41, 0, 0, 0, 0, 0] := by
  have s41 : shW (f 41) 0 = f 41 := sh0 h41.1 (by omega)
  simp [laW, tagsL, lstep, zeros, plW, plU, plB, s41]
  try simp only [u64]
  try omega
theorem rd_2_41 (f : Int → Int) (h41 : 0 ≤ f 41 ∧ f 41 ≤ 18446744073709551615) : rdG 2 [0, f 41, 0, 0, 0, 0, 0] 41 = f 41 := by
  have e : rdG 2 [0, f 41, 0, 0, 0, 0, 0] 41 = anW ((f 41) / 2 ^ 0) 18446744073709551615 := rfl
  rw [e, show (2 : Int) ^ 0 = 1 from rfl, an64 (by unfold Wd; omega)]
  omega
theorem la_3 (f : Int → Int) (h41 : 0 ≤ f 41 ∧ f 41 ≤ 18446744073709551615) (h11 : 0 ≤ f 11 ∧ f 11 ≤ 18446744073709551615) (h44 : 0 ≤ f 44 ∧ f 44 ≤ 4294967295) (h38 : 0 ≤ f 38 ∧ f 38 ≤ 18446744073709551615) (h210 : 0 ≤ f 210 ∧ f 210 ≤ 18446744073709551615) : laW 3 f (tagsL 3) = [f 11, f 41, 0, f 44, f 38, f 210, 0] := by
  have s41 : shW (f 41) 0 = f 41 := sh0 h41.1 (by omega)
  have s11 : shW (f 11) 0 = f 11 := sh0 h11.1 (by omega)
  have s44 : shW (f 44) 0 = f 44 := sh0 h44.1 (by omega)
  have s38 : shW (f 38) 0 = f 38 := sh0 h38.1 (by omega)
  have s210 : shW (f 210) 0 = f 210 := sh0 h210.1 (by omega)
  simp [laW, tagsL, lstep, zeros, plW, plU, plB, s41, s11, s44, s38, s210]
  try simp only [u64]
  try omega
theorem rd_3_41 (f : Int → Int) (h41 : 0 ≤ f 41 ∧ f 41 ≤ 18446744073709551615) (h11 : 0 ≤ f 11 ∧ f 11 ≤ 18446744073709551615) (h44 : 0 ≤ f 44 ∧ f 44 ≤ 4294967295) (h38 : 0 ≤ f 38 ∧ f 38 ≤ 18446744073709551615) (h210 : 0 ≤ f 210 ∧ f 210 ≤ 18446744073709551615) : rdG 3 [f 11, f 41, 0, f 44, f 38, f 210, 0] 41 = f 41 := by
  have e : rdG 3 [f 11, f 41, 0, f 44, f 38, f 210, 0] 41 = anW ((f 41) / 2 ^ 0) 18446744073709551615 := rfl
  rw [e, show (2 : Int) ^ 0 = 1 from rfl, an64 (by unfold Wd; omega)]
  omega
theorem rd_3_11 (f : Int → Int) (h41 : 0 ≤ f 41 ∧ f 41 ≤ 18446744073709551615) (h11 : 0 ≤ f 11 ∧ f 11 ≤ 18446744073709551615) (h44 : 0 ≤ f 44 ∧ f 44 ≤ 4294967295) (h38 : 0 ≤ f 38 ∧ f 38 ≤ 18446744073709551615) (h210 : 0 ≤ f 210 ∧ f 210 ≤ 18446744073709551615) : rdG 3 [f 11, f 41, 0, f 44, f 38, f 210, 0] 11 = f 11 := by
  have e : rdG 3 [f 11, f 41, 0, f 44, f 38, f 210, 0] 11 = anW ((f 11) / 2 ^ 0) 18446744073709551615 := rfl
  rw [e, show (2 : Int) ^ 0 = 1 from rfl, an64 (by unfold Wd; omega)]
  omega
theorem rd_3_44 (f : Int → Int) (h41 : 0 ≤ f 41 ∧ f 41 ≤ 18446744073709551615) (h11 : 0 ≤ f 11 ∧ f 11 ≤ 18446744073709551615) (h44 : 0 ≤ f 44 ∧ f 44 ≤ 4294967295) (h38 : 0 ≤ f 38 ∧ f 38 ≤ 18446744073709551615) (h210 : 0 ≤ f 210 ∧ f 210 ≤ 18446744073709551615) : rdG 3 [f 11, f 41, 0, f 44, f 38, f 210, 0] 44 = f 44 := by
  have e : rdG 3 [f 11, f 41, 0, f 44, f 38, f 210, 0] 44 = anW ((f 44) / 2 ^ 0) 4294967295 := rfl
  rw [e, show (2 : Int) ^ 0 = 1 from rfl, an32 (by unfold Wd; omega)]
  omega
theorem rd_3_38 (f : Int → Int) (h41 : 0 ≤ f 41 ∧ f 41 ≤ 18446744073709551615) (h11 : 0 ≤ f 11 ∧ f 11 ≤ 18446744073709551615) (h44 : 0 ≤ f 44 ∧ f 44 ≤ 4294967295) (h38 : 0 ≤ f 38 ∧ f 38 ≤ 18446744073709551615) (h210 : 0 ≤ f 210 ∧ f 210 ≤ 18446744073709551615) : rdG 3 [f 11, f 41, 0, f 44, f 38, f 210, 0] 38 = f 38 := by
  have e : rdG 3 [f 11, f 41, 0, f 44, f 38, f 210, 0] 38 = anW ((f 38) / 2 ^ 0) 18446744073709551615 := rfl
  rw [e, show (2 : Int) ^ 0 = 1 from rfl, an64 (by unfold Wd; omega)]
  omega
theorem rd_3_210 (f : Int → Int) (h41 : 0 ≤ f 41 ∧ f 41 ≤ 18446744073709551615) (h11 : 0 ≤ f 11 ∧ f 11 ≤ 18446744073709551615) (h44 : 0 ≤ f 44 ∧ f 44 ≤ 4294967295) (h38 : 0 ≤ f 38 ∧ f 38 ≤ 18446744073709551615) (h210 : 0 ≤ f 210 ∧ f 210 ≤ 18446744073709551615) : rdG 3 [f 11, f 41, 0, f 44, f 38, f 210, 0] 210 = f 210 := by
  have e : rdG 3 [f 11, f 41, 0, f 44, f 38, f 210, 0] 210 = anW ((f 210) / 2 ^ 0) 18446744073709551615 := rfl
  rw [e, show (2 : Int) ^ 0 = 1 from rfl, an64 (by unfold Wd; omega)]
  omega
theorem la_4 (f : Int → Int) (h9001 : 0 ≤ f 9001 ∧ f 9001 ≤ 255) : laW 4 f (tagsL 4) = [f 9001, 0, 0, 0, 0, 0, 0] := by
  have s9001 : shW (f 9001) 0 = f 9001 := sh0 h9001.1 (by omega)
  simp [laW, tagsL, lstep, zeros, plW, plU, plB, s9001]
  try simp only [u64]
  try omega
theorem rd_4_9001 (f : Int → Int) (h9001 : 0 ≤ f 9001 ∧ f 9001 ≤ 255) : rdG 4 [f 9001, 0, 0, 0, 0, 0, 0] 9001 = f 9001 := by
  have e : rdG 4 [f 9001, 0, 0, 0, 0, 0, 0] 9001 = anW ((f 9001) / 2 ^ 0) 255 := rfl
  rw [e, show (2 : Int) ^ 0 = 1 from rfl, an8 (by unfold Wd; omega)]
  omega
theorem la_65 (f : Int → Int) (h34 : 0 ≤ f 34 ∧ f 34 ≤ 18446744073709551615) (h11 : 0 ≤ f 11 ∧ f 11 ≤ 18446744073709551615) (h1 : 0 ≤ f 1 ∧ f 1 ≤ 4294967295) (h54 : 0 ≤ f 54 ∧ f 54 ≤ 255) (h40 : 0 ≤ f 40 ∧ f 40 ≤ 255) (h44 : 0 ≤ f 44 ∧ f 44 ≤ 4294967295) (h38 : 0 ≤ f 38 ∧ f 38 ≤ 18446744073709551615) (h210 : 0 ≤ f 210 ∧ f 210 ≤ 18446744073709551615) : laW 65 f (tagsL 65) = [f 34, f 11, 0, f 1 + f 54 * 4294967296 + f 40 * 1099511627776, f 44, f 38, f 210] := by
  have s34 : shW (f 34) 0 = f 34 := sh0 h34.1 (by omega)
  have s11 : shW (f 11) 0 = f 11 := sh0 h11.1 (by omega)
  have s1 : shW (f 1) 0 = f 1 := sh0 h1.1 (by omega)
  have s54 : shW (f 54) 32 = f 54 * 4294967296 := sh32 h54.1 (by omega)
  have s40 : shW (f 40) 40 = f 40 * 1099511627776 := sh40 h40.1 (by omega)
  have s44 : shW (f 44) 0 = f 44 := sh0 h44.1 (by omega)
  have s38 : shW (f 38) 0 = f 38 := sh0 h38.1 (by omega)
  have s210 : shW (f 210) 0 = f 210 := sh0 h210.1 (by omega)
  simp [laW, tagsL, lstep, zeros, plW, plU, plB, s34, s11, s1, s54, s40, s44, s38, s210]
  try simp only [u64]
  try omega
theorem rd_65_34 (f : Int → Int) (h34 : 0 ≤ f 34 ∧ f 34 ≤ 18446744073709551615) (h11 : 0 ≤ f 11 ∧ f 11 ≤ 18446744073709551615) (h1 : 0 ≤ f 1 ∧ f 1 ≤ 4294967295) (h54 : 0 ≤ f 54 ∧ f 54 ≤ 255) (h40 : 0 ≤ f 40 ∧ f 40 ≤ 255) (h44 : 0 ≤ f 44 ∧ f 44 ≤ 4294967295) (h38 : 0 ≤ f 38 ∧ f 38 ≤ 18446744073709551615) (h210 : 0 ≤ f 210 ∧ f 210 ≤ 18446744073709551615) : rdG 65 [f 34, f 11, 0, f 1 + f 54 * 4294967296 + f 40 * 1099511627776, f 44, f 38, f 210] 34 = f 34 := by
  have e : rdG 65 [f 34, f 11, 0, f 1 + f 54 * 4294967296 + f 40 * 1099511627776, f 44, f 38, f 210] 34 = anW ((f 34) / 2 ^ 0) 18446744073709551615 := rfl
  rw [e, show (2 : Int) ^ 0 = 1 from rfl, an64 (by unfold Wd; omega)]
  omega
theorem rd_65_11 (f : Int → Int) (h34 : 0 ≤ f 34 ∧ f 34 ≤ 18446744073709551615) (h11 : 0 ≤ f 11 ∧ f 11 ≤ 18446744073709551615) (h1 : 0 ≤ f 1 ∧ f 1 ≤ 4294967295) (h54 : 0 ≤ f 54 ∧ f 54 ≤ 255) (h40 : 0 ≤ f 40 ∧ f 40 ≤ 255) (h44 : 0 ≤ f 44 ∧ f 44 ≤ 4294967295) (h38 : 0 ≤ f 38 ∧ f 38 ≤ 18446744073709551615) (h210 : 0 ≤ f 210 ∧ f 210 ≤ 18446744073709551615) : rdG 65 [f 34, f 11, 0, f 1 + f 54 * 4294967296 + f 40 * 1099511627776, f 44, f 38, f 210] 11 = f 11 := by
  have e : rdG 65 [f 34, f 11, 0, f 1 + f 54 * 4294967296 + f 40 * 1099511627776, f 44, f 38, f 210] 11 = anW ((f 11) / 2 ^ 0) 18446744073709551615 := rfl
  rw [e, show (2 : Int) ^ 0 = 1 from rfl, an64 (by unfold Wd; omega)]
  omega
theorem rd_65_1 (f : Int → Int) (h34 : 0 ≤ f 34 ∧ f 34 ≤ 18446744073709551615) (h11 : 0 ≤ f 11 ∧ f 11 ≤ 18446744073709551615) (h1 : 0 ≤ f 1 ∧ f 1 ≤ 4294967295) (h54 : 0 ≤ f 54 ∧ f 54 ≤ 255) (h40 : 0 ≤ f 40 ∧ f 40 ≤ 255) (h44 : 0 ≤ f 44 ∧ f 44 ≤ 4294967295) (h38 : 0 ≤ f 38 ∧ f 38 ≤ 18446744073709551615) (h210 : 0 ≤ f 210 ∧ f 210 ≤ 18446744073709551615) : rdG 65 [f 34, f 11, 0, f 1 + f 54 * 4294967296 + f 40 * 1099511627776, f 44, f 38, f 210] 1 = f 1 := by
  have e : rdG 65 [f 34, f 11, 0, f 1 + f 54 * 4294967296 + f 40 * 1099511627776, f 44, f 38, f 210] 1 = anW ((f 1 + f 54 * 4294967296 + f 40 * 1099511627776) / 2 ^ 0) 4294967295 := rfl
  rw [e, show (2 : Int) ^ 0 = 1 from rfl, an32 (by unfold Wd; omega)]
  omega
theorem rd_65_54 (f : Int → Int) (h34 : 0 ≤ f 34 ∧ f 34 ≤ 18446744073709551615) (h11 : 0 ≤ f 11 ∧ f 11 ≤ 18446744073709551615) (h1 : 0 ≤ f 1 ∧ f 1 ≤ 4294967295) (h54 : 0 ≤ f 54 ∧ f 54 ≤ 255) (h40 : 0 ≤ f 40 ∧ f 40 ≤ 255) (h44 : 0 ≤ f 44 ∧ f 44 ≤ 4294967295) (h38 : 0 ≤ f 38 ∧ f 38 ≤ 18446744073709551615) (h210 : 0 ≤ f 210 ∧ f 210 ≤ 18446744073709551615) : rdG 65 [f 34, f 11, 0, f 1 + f 54 * 4294967296 + f 40 * 1099511627776, f 44, f 38, f 210] 54 = f 54 := by
  have e : rdG 65 [f 34, f 11, 0, f 1 + f 54 * 4294967296 + f 40 * 1099511627776, f 44, f 38, f 210] 54 = anW ((f 1 + f 54 * 4294967296 + f 40 * 1099511627776) / 2 ^ 32) 255 := rfl
  rw [e, show (2 : Int) ^ 32 = 4294967296 from rfl, an8 (by unfold Wd; omega)]
  omega
theorem rd_65_40 (f : Int → Int) (h34 : 0 ≤ f 34 ∧ f 34 ≤ 18446744073709551615) (h11 : 0 ≤ f 11 ∧ f 11 ≤ 18446744073709551615) (h1 : 0 ≤ f 1 ∧ f 1 ≤ 4294967295) (h54 : 0 ≤ f 54 ∧ f 54 ≤ 255) (h40 : 0 ≤ f 40 ∧ f 40 ≤ 255) (h44 : 0 ≤ f 44 ∧ f 44 ≤ 4294967295) (h38 : 0 ≤ f 38 ∧ f 38 ≤ 18446744073709551615) (h210 : 0 ≤ f 210 ∧ f 210 ≤ 18446744073709551615) : rdG 65 [f 34, f 11, 0, f 1 + f 54 * 4294967296 + f 40 * 1099511627776, f 44, f 38, f 210] 40 = f 40 := by
  have e : rdG 65 [f 34, f 11, 0, f 1 + f 54 * 4294967296 + f 40 * 1099511627776, f 44, f 38, f 210] 40 = anW ((f 1 + f 54 * 4294967296 + f 40 * 1099511627776) / 2 ^ 40) 255 := rfl
  rw [e, show (2 : Int) ^ 40 = 1099511627776 from rfl, an8 (by unfold Wd; omega)]
  omega
theorem rd_65_44 (f : Int → Int) (h34 : 0 ≤ f 34 ∧ f 34 ≤ 18446744073709551615) (h11 : 0 ≤ f 11 ∧ f 11 ≤ 18446744073709551615) (h1 : 0 ≤ f 1 ∧ f 1 ≤ 4294967295) (h54 : 0 ≤ f 54 ∧ f 54 ≤ 255) (h40 : 0 ≤ f 40 ∧ f 40 ≤ 255) (h44 : 0 ≤ f 44 ∧ f 44 ≤ 4294967295) (h38 : 0 ≤ f 38 ∧ f 38 ≤ 18446744073709551615) (h210 : 0 ≤ f 210 ∧ f 210 ≤ 18446744073709551615) : rdG 65 [f 34, f 11, 0, f 1 + f 54 * 4294967296 + f 40 * 1099511627776, f 44, f 38, f 210] 44 = f 44 := by
  have e : rdG 65 [f 34, f 11, 0, f 1 + f 54 * 4294967296 + f 40 * 1099511627776, f 44, f 38, f 210] 44 = anW ((f 44) / 2 ^ 0) 4294967295 := rfl
  rw [e, show (2 : Int) ^ 0 = 1 from rfl, an32 (by unfold Wd; omega)]
  omega
theorem rd_65_38 (f : Int → Int) (h34 : 0 ≤ f 34 ∧ f 34 ≤ 18446744073709551615) (h11 : 0 ≤ f 11 ∧ f 11 ≤ 18446744073709551615) (h1 : 0 ≤ f 1 ∧ f 1 ≤ 4294967295) (h54 : 0 ≤ f 54 ∧ f 54 ≤ 255) (h40 : 0 ≤ f 40 ∧ f 40 ≤ 255) (h44 : 0 ≤ f 44 ∧ f 44 ≤ 4294967295) (h38 : 0 ≤ f 38 ∧ f 38 ≤ 18446744073709551615) (h210 : 0 ≤ f 210 ∧ f 210 ≤ 18446744073709551615) : rdG 65 [f 34, f 11, 0, f 1 + f 54 * 4294967296 + f 40 * 1099511627776, f 44, f 38, f 210] 38 = f 38 := by
  have e : rdG 65 [f 34, f 11, 0, f 1 + f 54 * 4294967296 + f 40 * 1099511627776, f 44, f 38, f 210] 38 = anW ((f 38) / 2 ^ 0) 18446744073709551615 := rfl
  rw [e, show (2 : Int) ^ 0 = 1 from rfl, an64 (by unfold Wd; omega)]
  omega
theorem rd_65_210 (f : Int → Int) (h34 : 0 ≤ f 34 ∧ f 34 ≤ 18446744073709551615) (h11 : 0 ≤ f 11 ∧ f 11 ≤ 18446744073709551615) (h1 : 0 ≤ f 1 ∧ f 1 ≤ 4294967295) (h54 : 0 ≤ f 54 ∧ f 54 ≤ 255) (h40 : 0 ≤ f 40 ∧ f 40 ≤ 255) (h44 : 0 ≤ f 44 ∧ f 44 ≤ 4294967295) (h38 : 0 ≤ f 38 ∧ f 38 ≤ 18446744073709551615) (h210 : 0 ≤ f 210 ∧ f 210 ≤ 18446744073709551615) : rdG 65 [f 34, f 11, 0, f 1 + f 54 * 4294967296 + f 40 * 1099511627776, f 44, f 38, f 210] 210 = f 210 := by
  have e : rdG 65 [f 34, f 11, 0, f 1 + f 54 * 4294967296 + f 40 * 1099511627776, f 44, f 38, f 210] 210 = anW ((f 210) / 2 ^ 0) 18446744073709551615 := rfl
  rw [e, show (2 : Int) ^ 0 = 1 from rfl, an64 (by unfold Wd; omega)]
  omega
theorem la_66 (f : Int → Int) (h34 : 0 ≤ f 34 ∧ f 34 ≤ 18446744073709551615) (h11 : 0 ≤ f 11 ∧ f 11 ≤ 18446744073709551615) (h41 : 0 ≤ f 41 ∧ f 41 ≤ 18446744073709551615) (h103 : 0 ≤ f 103 ∧ f 103 ≤ 4294967295) : laW 66 f (tagsL 66) = [f 34, f 11, f 41, 0, f 103 * 4294967296, 0, 0] := by
  have s34 : shW (f 34) 0 = f 34 := sh0 h34.1 (by omega)
  have s11 : shW (f 11) 0 = f 11 := sh0 h11.1 (by omega)
  have s41 : shW (f 41) 0 = f 41 := sh0 h41.1 (by omega)
  have s103 : shW (f 103) 32 = f 103 * 4294967296 := sh32 h103.1 (by omega)
  simp [laW, tagsL, lstep, zeros, plW, plU, plB, s34, s11, s41, s103]
  try simp only [u64]
  try omega
theorem rd_66_34 (f : Int → Int) (h34 : 0 ≤ f 34 ∧ f 34 ≤ 18446744073709551615) (h11 : 0 ≤ f 11 ∧ f 11 ≤ 18446744073709551615) (h41 : 0 ≤ f 41 ∧ f 41 ≤ 18446744073709551615) (h103 : 0 ≤ f 103 ∧ f 103 ≤ 4294967295) : rdG 66 [f 34, f 11, f 41, 0, f 103 * 4294967296, 0, 0] 34 = f 34 := by
  have e : rdG 66 [f 34, f 11, f 41, 0, f 103 * 4294967296, 0, 0] 34 = anW ((f 34) / 2 ^ 0) 18446744073709551615 := rfl
  rw [e, show (2 : Int) ^ 0 = 1 from rfl, an64 (by unfold Wd; omega)]
  omega
theorem rd_66_11 (f : Int → Int) (h34 : 0 ≤ f 34 ∧ f 34 ≤ 18446744073709551615) (h11 : 0 ≤ f 11 ∧ f 11 ≤ 18446744073709551615) (h41 : 0 ≤ f 41 ∧ f 41 ≤ 18446744073709551615) (h103 : 0 ≤ f 103 ∧ f 103 ≤ 4294967295) : rdG 66 [f 34, f 11, f 41, 0, f 103 * 4294967296, 0, 0] 11 = f 11 := by
  have e : rdG 66 [f 34, f 11, f 41, 0, f 103 * 4294967296, 0, 0] 11 = anW ((f 11) / 2 ^ 0) 18446744073709551615 := rfl
  rw [e, show (2 : Int) ^ 0 = 1 from rfl, an64 (by unfold Wd; omega)]
  omega
theorem rd_66_41 (f : Int → Int) (h34 : 0 ≤ f 34 ∧ f 34 ≤ 18446744073709551615) (h11 : 0 ≤ f 11 ∧ f 11 ≤ 18446744073709551615) (h41 : 0 ≤ f 41 ∧ f 41 ≤ 18446744073709551615) (h103 : 0 ≤ f 103 ∧ f 103 ≤ 4294967295) : rdG 66 [f 34, f 11, f 41, 0, f 103 * 4294967296, 0, 0] 41 = f 41 := by
  have e : rdG 66 [f 34, f 11, f 41, 0, f 103 * 4294967296, 0, 0] 41 = anW ((f 41) / 2 ^ 0) 18446744073709551615 := rfl
  rw [e, show (2 : Int) ^ 0 = 1 from rfl, an64 (by unfold Wd; omega)]
  omega
theorem rd_66_103 (f : Int → Int) (h34 : 0 ≤ f 34 ∧ f 34 ≤ 18446744073709551615) (h11 : 0 ≤ f 11 ∧ f 11 ≤ 18446744073709551615) (h41 : 0 ≤ f 41 ∧ f 41 ≤ 18446744073709551615) (h103 : 0 ≤ f 103 ∧ f 103 ≤ 4294967295) : rdG 66 [f 34, f 11, f 41, 0, f 103 * 4294967296, 0, 0] 103 = f 103 := by
  have e : rdG 66 [f 34, f 11, f 41, 0, f 103 * 4294967296, 0, 0] 103 = anW ((f 103 * 4294967296) / 2 ^ 32) 4294967295 := rfl
  rw [e, show (2 : Int) ^ 32 = 4294967296 from rfl, an32 (by unfold Wd; omega)]
  omega
theorem la_67 (f : Int → Int) (h34 : 0 ≤ f 34 ∧ f 34 ≤ 18446744073709551615) (h11 : 0 ≤ f 11 ∧ f 11 ≤ 18446744073709551615) (h37 : 0 ≤ f 37 ∧ f 37 ≤ 18446744073709551615) (h54 : 0 ≤ f 54 ∧ f 54 ≤ 255) (h44 : 0 ≤ f 44 ∧ f 44 ≤ 4294967295) (h38 : 0 ≤ f 38 ∧ f 38 ≤ 18446744073709551615) : laW 67 f (tagsL 67) = [f 34, f 11, f 37, f 54 * 4294967296, f 44, f 38, 0] := by
  have s34 : shW (f 34) 0 = f 34 := sh0 h34.1 (by omega)
  have s11 : shW (f 11) 0 = f 11 := sh0 h11.1 (by omega)
  have s37 : shW (f 37) 0 = f 37 := sh0 h37.1 (by omega)
  have s54 : shW (f 54) 32 = f 54 * 4294967296 := sh32 h54.1 (by omega)
  have s44 : shW (f 44) 0 = f 44 := sh0 h44.1 (by omega)
  have s38 : shW (f 38) 0 = f 38 := sh0 h38.1 (by omega)
  simp [laW, tagsL, lstep, zeros, plW, plU, plB, s34, s11, s37, s54, s44, s38]
  try simp only [u64]
  try omega
theorem rd_67_34 (f : Int → Int) (h34 : 0 ≤ f 34 ∧ f 34 ≤ 18446744073709551615) (h11 : 0 ≤ f 11 ∧ f 11 ≤ 18446744073709551615) (h37 : 0 ≤ f 37 ∧ f 37 ≤ 18446744073709551615) (h54 : 0 ≤ f 54 ∧ f 54 ≤ 255) (h44 : 0 ≤ f 44 ∧ f 44 ≤ 4294967295) (h38 : 0 ≤ f 38 ∧ f 38 ≤ 18446744073709551615) : rdG 67 [f 34, f 11, f 37, f 54 * 4294967296, f 44, f 38, 0] 34 = f 34 := by
  have e : rdG 67 [f 34, f 11, f 37, f 54 * 4294967296, f 44, f 38, 0] 34 = anW ((f 34) / 2 ^ 0) 18446744073709551615 := rfl
  rw [e, show (2 : Int) ^ 0 = 1 from rfl, an64 (by unfold Wd; omega)]
  omega
theorem rd_67_11 (f : Int → Int) (h34 : 0 ≤ f 34 ∧ f 34 ≤ 18446744073709551615) (h11 : 0 ≤ f 11 ∧ f 11 ≤ 18446744073709551615) (h37 : 0 ≤ f 37 ∧ f 37 ≤ 18446744073709551615) (h54 : 0 ≤ f 54 ∧ f 54 ≤ 255) (h44 : 0 ≤ f 44 ∧ f 44 ≤ 4294967295) (h38 : 0 ≤ f 38 ∧ f 38 ≤ 18446744073709551615) : rdG 67 [f 34, f 11, f 37, f 54 * 4294967296, f 44, f 38, 0] 11 = f 11 := by
  have e : rdG 67 [f 34, f 11, f 37, f 54 * 4294967296, f 44, f 38, 0] 11 = anW ((f 11) / 2 ^ 0) 18446744073709551615 := rfl
  rw [e, show (2 : Int) ^ 0 = 1 from rfl, an64 (by unfold Wd; omega)]
  omega
theorem rd_67_37 (f : Int → Int) (h34 : 0 ≤ f 34 ∧ f 34 ≤ 18446744073709551615) (h11 : 0 ≤ f 11 ∧ f 11 ≤ 18446744073709551615) (h37 : 0 ≤ f 37 ∧ f 37 ≤ 18446744073709551615) (h54 : 0 ≤ f 54 ∧ f 54 ≤ 255) (h44 : 0 ≤ f 44 ∧ f 44 ≤ 4294967295) (h38 : 0 ≤ f 38 ∧ f 38 ≤ 18446744073709551615) : rdG 67 [f 34, f 11, f 37, f 54 * 4294967296, f 44, f 38, 0] 37 = f 37 := by
  have e : rdG 67 [f 34, f 11, f 37, f 54 * 4294967296, f 44, f 38, 0] 37 = anW ((f 37) / 2 ^ 0) 18446744073709551615 := rfl
  rw [e, show (2 : Int) ^ 0 = 1 from rfl, an64 (by unfold Wd; omega)]
  omega
theorem rd_67_54 (f : Int → Int) (h34 : 0 ≤ f 34 ∧ f 34 ≤ 18446744073709551615) (h11 : 0 ≤ f 11 ∧ f 11 ≤ 18446744073709551615) (h37 : 0 ≤ f 37 ∧ f 37 ≤ 18446744073709551615) (h54 : 0 ≤ f 54 ∧ f 54 ≤ 255) (h44 : 0 ≤ f 44 ∧ f 44 ≤ 4294967295) (h38 : 0 ≤ f 38 ∧ f 38 ≤ 18446744073709551615) : rdG 67 [f 34, f 11, f 37, f 54 * 4294967296, f 44, f 38, 0] 54 = f 54 := by
  have e : rdG 67 [f 34, f 11, f 37, f 54 * 4294967296, f 44, f 38, 0] 54 = anW ((f 54 * 4294967296) / 2 ^ 32) 255 := rfl
  rw [e, show (2 : Int) ^ 32 = 4294967296 from rfl, an8 (by unfold Wd; omega)]
  omega
theorem rd_67_44 (f : Int → Int) (h34 : 0 ≤ f 34 ∧ f 34 ≤ 18446744073709551615) (h11 : 0 ≤ f 11 ∧ f 11 ≤ 18446744073709551615) (h37 : 0 ≤ f 37 ∧ f 37 ≤ 18446744073709551615) (h54 : 0 ≤ f 54 ∧ f 54 ≤ 255) (h44 : 0 ≤ f 44 ∧ f 44 ≤ 4294967295) (h38 : 0 ≤ f 38 ∧ f 38 ≤ 18446744073709551615) : rdG 67 [f 34, f 11, f 37, f 54 * 4294967296, f 44, f 38, 0] 44 = f 44 := by
  have e : rdG 67 [f 34, f 11, f 37, f 54 * 4294967296, f 44, f 38, 0] 44 = anW ((f 44) / 2 ^ 0) 4294967295 := rfl
  rw [e, show (2 : Int) ^ 0 = 1 from rfl, an32 (by unfold Wd; omega)]
  omega
theorem rd_67_38 (f : Int → Int) (h34 : 0 ≤ f 34 ∧ f 34 ≤ 18446744073709551615) (h11 : 0 ≤ f 11 ∧ f 11 ≤ 18446744073709551615) (h37 : 0 ≤ f 37 ∧ f 37 ≤ 18446744073709551615) (h54 : 0 ≤ f 54 ∧ f 54 ≤ 255) (h44 : 0 ≤ f 44 ∧ f 44 ≤ 4294967295) (h38 : 0 ≤ f 38 ∧ f 38 ≤ 18446744073709551615) : rdG 67 [f 34, f 11, f 37, f 54 * 4294967296, f 44, f 38, 0] 38 = f 38 := by
  have e : rdG 67 [f 34, f 11, f 37, f 54 * 4294967296, f 44, f 38, 0] 38 = anW ((f 38) / 2 ^ 0) 18446744073709551615 := rfl
  rw [e, show (2 : Int) ^ 0 = 1 from rfl, an64 (by unfold Wd; omega)]
  omega
theorem la_68 (f : Int → Int) (h34 : 0 ≤ f 34 ∧ f 34 ≤ 18446744073709551615) (h11 : 0 ≤ f 11 ∧ f 11 ≤ 18446744073709551615) (h38 : 0 ≤ f 38 ∧ f 38 ≤ 18446744073709551615) (h378 : 0 ≤ f 378 ∧ f 378 ≤ 255) : laW 68 f (tagsL 68) = [f 34, f 11, 0, f 378 * 281474976710656, 0, f 38, 0] := by
  have s34 : shW (f 34) 0 = f 34 := sh0 h34.1 (by omega)
  have s11 : shW (f 11) 0 = f 11 := sh0 h11.1 (by omega)
  have s38 : shW (f 38) 0 = f 38 := sh0 h38.1 (by omega)
  have s378 : shW (f 378) 48 = f 378 * 281474976710656 := sh48 h378.1 (by omega)
  simp [laW, tagsL, lstep, zeros, plW, plU, plB, s34, s11, s38, s378]
  try simp only [u64]
  try omega
theorem rd_68_34 (f : Int → Int) (h34 : 0 ≤ f 34 ∧ f 34 ≤ 18446744073709551615) (h11 : 0 ≤ f 11 ∧ f 11 ≤ 18446744073709551615) (h38 : 0 ≤ f 38 ∧ f 38 ≤ 18446744073709551615) (h378 : 0 ≤ f 378 ∧ f 378 ≤ 255) : rdG 68 [f 34, f 11, 0, f 378 * 281474976710656, 0, f 38, 0] 34 = f 34 := by
  have e : rdG 68 [f 34, f 11, 0, f 378 * 281474976710656, 0, f 38, 0] 34 = anW ((f 34) / 2 ^ 0) 18446744073709551615 := rfl
  rw [e, show (2 : Int) ^ 0 = 1 from rfl, an64 (by unfold Wd; omega)]
  omega
theorem rd_68_11 (f : Int → Int) (h34 : 0 ≤ f 34 ∧ f 34 ≤ 18446744073709551615) (h11 : 0 ≤ f 11 ∧ f 11 ≤ 18446744073709551615) (h38 : 0 ≤ f 38 ∧ f 38 ≤ 18446744073709551615) (h378 : 0 ≤ f 378 ∧ f 378 ≤ 255) : rdG 68 [f 34, f 11, 0, f 378 * 281474976710656, 0, f 38, 0] 11 = f 11 := by
  have e : rdG 68 [f 34, f 11, 0, f 378 * 281474976710656, 0, f 38, 0] 11 = anW ((f 11) / 2 ^ 0) 18446744073709551615 := rfl
  rw [e, show (2 : Int) ^ 0 = 1 from rfl, an64 (by unfold Wd; omega)]
  omega
theorem rd_68_38 (f : Int → Int) (h34 : 0 ≤ f 34 ∧ f 34 ≤ 18446744073709551615) (h11 : 0 ≤ f 11 ∧ f 11 ≤ 18446744073709551615) (h38 : 0 ≤ f 38 ∧ f 38 ≤ 18446744073709551615) (h378 : 0 ≤ f 378 ∧ f 378 ≤ 255) : rdG 68 [f 34, f 11, 0, f 378 * 281474976710656, 0, f 38, 0] 38 = f 38 := by
  have e : rdG 68 [f 34, f 11, 0, f 378 * 281474976710656, 0, f 38, 0] 38 = anW ((f 38) / 2 ^ 0) 18446744073709551615 := rfl
  rw [e, show (2 : Int) ^ 0 = 1 from rfl, an64 (by unfold Wd; omega)]
  omega
theorem rd_68_378 (f : Int → Int) (h34 : 0 ≤ f 34 ∧ f 34 ≤ 18446744073709551615) (h11 : 0 ≤ f 11 ∧ f 11 ≤ 18446744073709551615) (h38 : 0 ≤ f 38 ∧ f 38 ≤ 18446744073709551615) (h378 : 0 ≤ f 378 ∧ f 378 ≤ 255) : rdG 68 [f 34, f 11, 0, f 378 * 281474976710656, 0, f 38, 0] 378 = f 378 := by
  have e : rdG 68 [f 34, f 11, 0, f 378 * 281474976710656, 0, f 38, 0] 378 = anW ((f 378 * 281474976710656) / 2 ^ 48) 255 := rfl
  rw [e, show (2 : Int) ^ 48 = 281474976710656 from rfl, an8 (by unfold Wd; omega)]
  omega
theorem la_69 (f : Int → Int) (h34 : 0 ≤ f 34 ∧ f 34 ≤ 18446744073709551615) (h11 : 0 ≤ f 11 ∧ f 11 ≤ 18446744073709551615) (h44 : 0 ≤ f 44 ∧ f 44 ≤ 4294967295) (h38 : 0 ≤ f 38 ∧ f 38 ≤ 18446744073709551615) : laW 69 f (tagsL 69) = [f 34, f 11, 0, 0, f 44, f 38, 0] := by
  have s34 : shW (f 34) 0 = f 34 := sh0 h34.1 (by omega)
  have s11 : shW (f 11) 0 = f 11 := sh0 h11.1 (by omega)
  have s44 : shW (f 44) 0 = f 44 := sh0 h44.1 (by omega)
  have s38 : shW (f 38) 0 = f 38 := sh0 h38.1 (by omega)
  simp [laW, tagsL, lstep, zeros, plW, plU, plB, s34, s11, s44, s38]
  try simp only [u64]
  try omega
theorem rd_69_34 (f : Int → Int) (h34 : 0 ≤ f 34 ∧ f 34 ≤ 18446744073709551615) (h11 : 0 ≤ f 11 ∧ f 11 ≤ 18446744073709551615) (h44 : 0 ≤ f 44 ∧ f 44 ≤ 4294967295) (h38 : 0 ≤ f 38 ∧ f 38 ≤ 18446744073709551615) : rdG 69 [f 34, f 11, 0, 0, f 44, f 38, 0] 34 = f 34 := by
  have e : rdG 69 [f 34, f 11, 0, 0, f 44, f 38, 0] 34 = anW ((f 34) / 2 ^ 0) 18446744073709551615 := rfl
  rw [e, show (2 : Int) ^ 0 = 1 from rfl, an64 (by unfold Wd; omega)]
  omega
theorem rd_69_11 (f : Int → Int) (h34 : 0 ≤ f 34 ∧ f 34 ≤ 18446744073709551615) (h11 : 0 ≤ f 11 ∧ f 11 ≤ 18446744073709551615) (h44 : 0 ≤ f 44 ∧ f 44 ≤ 4294967295) (h38 : 0 ≤ f 38 ∧ f 38 ≤ 18446744073709551615) : rdG 69 [f 34, f 11, 0, 0, f 44, f 38, 0] 11 = f 11 := by
  have e : rdG 69 [f 34, f 11, 0, 0, f 44, f 38, 0] 11 = anW ((f 11) / 2 ^ 0) 18446744073709551615 := rfl
  rw [e, show (2 : Int) ^ 0 = 1 from rfl, an64 (by unfold Wd; omega)]
  omega
theorem rd_69_44 (f : Int → Int) (h34 : 0 ≤ f 34 ∧ f 34 ≤ 18446744073709551615) (h11 : 0 ≤ f 11 ∧ f 11 ≤ 18446744073709551615) (h44 : 0 ≤ f 44 ∧ f 44 ≤ 4294967295) (h38 : 0 ≤ f 38 ∧ f 38 ≤ 18446744073709551615) : rdG 69 [f 34, f 11, 0, 0, f 44, f 38, 0] 44 = f 44 := by
  have e : rdG 69 [f 34, f 11, 0, 0, f 44, f 38, 0] 44 = anW ((f 44) / 2 ^ 0) 4294967295 := rfl
  rw [e, show (2 : Int) ^ 0 = 1 from rfl, an32 (by unfold Wd; omega)]
  omega
theorem rd_69_38 (f : Int → Int) (h34 : 0 ≤ f 34 ∧ f 34 ≤ 18446744073709551615) (h11 : 0 ≤ f 11 ∧ f 11 ≤ 18446744073709551615) (h44 : 0 ≤ f 44 ∧ f 44 ≤ 4294967295) (h38 : 0 ≤ f 38 ∧ f 38 ≤ 18446744073709551615) : rdG 69 [f 34, f 11, 0, 0, f 44, f 38, 0] 38 = f 38 := by
  have e : rdG 69 [f 34, f 11, 0, 0, f 44, f 38, 0] 38 = anW ((f 38) / 2 ^ 0) 18446744073709551615 := rfl
  rw [e, show (2 : Int) ^ 0 = 1 from rfl, an64 (by unfold Wd; omega)]
  omega
theorem rd_la {k : Int} (hk : Kd k) (f : Int → Int) (hb : ∀ t ∈ tagsL k, 0 ≤ f t ∧ f t ≤ bnd t) (t : Int) (ht : t ∈ tagsL k) : rdG k (laW k f (tagsL k)) t = f t := by
  rcases kd_cases hk with rfl | rfl | rfl | rfl | rfl | rfl | rfl | rfl | rfl
  · have h11 : 0 ≤ f 11 ∧ f 11 ≤ 18446744073709551615 := hb 11 (by decide)
    have h1 : 0 ≤ f 1 ∧ f 1 ≤ 4294967295 := hb 1 (by decide)
    have h54 : 0 ≤ f 54 ∧ f 54 ≤ 255 := hb 54 (by decide)
    have h40 : 0 ≤ f 40 ∧ f 40 ≤ 255 := hb 40 (by decide)
    have h44 : 0 ≤ f 44 ∧ f 44 ≤ 4294967295 := hb 44 (by decide)
    have h38 : 0 ≤ f 38 ∧ f 38 ≤ 18446744073709551615 := hb 38 (by decide)
    have h210 : 0 ≤ f 210 ∧ f 210 ≤ 18446744073709551615 := hb 210 (by decide)
    rw [la_1 f h11 h1 h54 h40 h44 h38 h210]
    have ht2 : t = 11 ∨ t = 1 ∨ t = 54 ∨ t = 40 ∨ t = 44 ∨ t = 38 ∨ t = 210 := by simpa [tagsL] using ht
    rcases ht2 with rfl | rfl | rfl | rfl | rfl | rfl | rfl
    · exact rd_1_11 f h11 h1 h54 h40 h44 h38 h210
    · exact rd_1_1 f h11 h1 h54 h40 h44 h38 h210
    · exact rd_1_54 f h11 h1 h54 h40 h44 h38 h210
    · exact rd_1_40 f h11 h1 h54 h40 h44 h38 h210
    · exact rd_1_44 f h11 h1 h54 h40 h44 h38 h210
    · exact rd_1_38 f h11 h1 h54 h40 h44 h38 h210
    · exact rd_1_210 f h11 h1 h54 h40 h44 h38 h210
  · have h41 : 0 ≤ f 41 ∧ f 41 ≤ 18446744073709551615 := hb 41 (by decide)
    rw [la_2 f h41]
    have ht2 : t = 41 := by simpa [tagsL] using ht
    rcases ht2 with rfl
    · exact rd_2_41 f h41
  · have h41 : 0 ≤ f 41 ∧ f 41 ≤ 18446744073709551615 := hb 41 (by decide)
    have h11 : 0 ≤ f 11 ∧ f 11 ≤ 18446744073709551615 := hb 11 (by decide)
    have h44 : 0 ≤ f 44 ∧ f 44 ≤ 4294967295 := hb 44 (by decide)
    have h38 : 0 ≤ f 38 ∧ f 38 ≤ 18446744073709551615 := hb 38 (by decide)
    have h210 : 0 ≤ f 210 ∧ f 210 ≤ 18446744073709551615 := hb 210 (by decide)
    rw [la_3 f h41 h11 h44 h38 h210]
    have ht2 : t = 41 ∨ t = 11 ∨ t = 44 ∨ t = 38 ∨ t = 210 := by simpa [tagsL] using ht
    rcases ht2 with rfl | rfl | rfl | rfl | rfl
    · exact rd_3_41 f h41 h11 h44 h38 h210
    · exact rd_3_11 f h41 h11 h44 h38 h210
    · exact rd_3_44 f h41 h11 h44 h38 h210
    · exact rd_3_38 f h41 h11 h44 h38 h210
    · exact rd_3_210 f h41 h11 h44 h38 h210
  · have h9001 : 0 ≤ f 9001 ∧ f 9001 ≤ 255 := hb 9001 (by decide)
    rw [la_4 f h9001]
    have ht2 : t = 9001 := by simpa [tagsL] using ht
    rcases ht2 with rfl
    · exact rd_4_9001 f h9001
  · have h34 : 0 ≤ f 34 ∧ f 34 ≤ 18446744073709551615 := hb 34 (by decide)
    have h11 : 0 ≤ f 11 ∧ f 11 ≤ 18446744073709551615 := hb 11 (by decide)
    have h1 : 0 ≤ f 1 ∧ f 1 ≤ 4294967295 := hb 1 (by decide)
    have h54 : 0 ≤ f 54 ∧ f 54 ≤ 255 := hb 54 (by decide)
    have h40 : 0 ≤ f 40 ∧ f 40 ≤ 255 := hb 40 (by decide)
    have h44 : 0 ≤ f 44 ∧ f 44 ≤ 4294967295 := hb 44 (by decide)
    have h38 : 0 ≤ f 38 ∧ f 38 ≤ 18446744073709551615 := hb 38 (by decide)
    have h210 : 0 ≤ f 210 ∧ f 210 ≤ 18446744073709551615 := hb 210 (by decide)
    rw [la_65 f h34 h11 h1 h54 h40 h44 h38 h210]
    have ht2 : t = 34 ∨ t = 11 ∨ t = 1 ∨ t = 54 ∨ t = 40 ∨ t = 44 ∨ t = 38 ∨ t = 210 := by simpa [tagsL] using ht
    rcases ht2 with rfl | rfl | rfl | rfl | rfl | rfl | rfl | rfl
    · exact rd_65_34 f h34 h11 h1 h54 h40 h44 h38 h210
    · exact rd_65_11 f h34 h11 h1 h54 h40 h44 h38 h210
    · exact rd_65_1 f h34 h11 h1 h54 h40 h44 h38 h210
    · exact rd_65_54 f h34 h11 h1 h54 h40 h44 h38 h210
    · exact rd_65_40 f h34 h11 h1 h54 h40 h44 h38 h210
    · exact rd_65_44 f h34 h11 h1 h54 h40 h44 h38 h210
    · exact rd_65_38 f h34 h11 h1 h54 h40 h44 h38 h210
    · exact rd_65_210 f h34 h11 h1 h54 h40 h44 h38 h210
  · have h34 : 0 ≤ f 34 ∧ f 34 ≤ 18446744073709551615 := hb 34 (by decide)
    have h11 : 0 ≤ f 11 ∧ f 11 ≤ 18446744073709551615 := hb 11 (by decide)
    have h41 : 0 ≤ f 41 ∧ f 41 ≤ 18446744073709551615 := hb 41 (by decide)
    have h103 : 0 ≤ f 103 ∧ f 103 ≤ 4294967295 := hb 103 (by decide)
    rw [la_66 f h34 h11 h41 h103]
    have ht2 : t = 34 ∨ t = 11 ∨ t = 41 ∨ t = 103 := by simpa [tagsL] using ht
    rcases ht2 with rfl | rfl | rfl | rfl
    · exact rd_66_34 f h34 h11 h41 h103
    · exact rd_66_11 f h34 h11 h41 h103
    · exact rd_66_41 f h34 h11 h41 h103
    · exact rd_66_103 f h34 h11 h41 h103
  · have h34 : 0 ≤ f 34 ∧ f 34 ≤ 18446744073709551615 := hb 34 (by decide)
    have h11 : 0 ≤ f 11 ∧ f 11 ≤ 18446744073709551615 := hb 11 (by decide)
    have h37 : 0 ≤ f 37 ∧ f 37 ≤ 18446744073709551615 := hb 37 (by decide)
    have h54 : 0 ≤ f 54 ∧ f 54 ≤ 255 := hb 54 (by decide)
    have h44 : 0 ≤ f 44 ∧ f 44 ≤ 4294967295 := hb 44 (by decide)
    have h38 : 0 ≤ f 38 ∧ f 38 ≤ 18446744073709551615 := hb 38 (by decide)
    rw [la_67 f h34 h11 h37 h54 h44 h38]
    have ht2 : t = 34 ∨ t = 11 ∨ t = 37 ∨ t = 54 ∨ t = 44 ∨ t = 38 := by simpa [tagsL] using ht
    rcases ht2 with rfl | rfl | rfl | rfl | rfl | rfl
    · exact rd_67_34 f h34 h11 h37 h54 h44 h38
    · exact rd_67_11 f h34 h11 h37 h54 h44 h38
    · exact rd_67_37 f h34 h11 h37 h54 h44 h38
    · exact rd_67_54 f h34 h11 h37 h54 h44 h38
    · exact rd_67_44 f h34 h11 h37 h54 h44 h38
    · exact rd_67_38 f h34 h11 h37 h54 h44 h38
  · have h34 : 0 ≤ f 34 ∧ f 34 ≤ 18446744073709551615 := hb 34 (by decide)
    have h11 : 0 ≤ f 11 ∧ f 11 ≤ 18446744073709551615 := hb 11 (by decide)
    have h38 : 0 ≤ f 38 ∧ f 38 ≤ 18446744073709551615 := hb 38 (by decide)
    have h378 : 0 ≤ f 378 ∧ f 378 ≤ 255 := hb 378 (by decide)
    rw [la_68 f h34 h11 h38 h378]
    have ht2 : t = 34 ∨ t = 11 ∨ t = 38 ∨ t = 378 := by simpa [tagsL] using ht
    rcases ht2 with rfl | rfl | rfl | rfl
    · exact rd_68_34 f h34 h11 h38 h378
    · exact rd_68_11 f h34 h11 h38 h378
    · exact rd_68_38 f h34 h11 h38 h378
    · exact rd_68_378 f h34 h11 h38 h378
  · have h34 : 0 ≤ f 34 ∧ f 34 ≤ 18446744073709551615 := hb 34 (by decide)
    have h11 : 0 ≤ f 11 ∧ f 11 ≤ 18446744073709551615 := hb 11 (by decide)
    have h44 : 0 ≤ f 44 ∧ f 44 ≤ 4294967295 := hb 44 (by decide)
    have h38 : 0 ≤ f 38 ∧ f 38 ≤ 18446744073709551615 := hb 38 (by decide)
    rw [la_69 f h34 h11 h44 h38]
    have ht2 : t = 34 ∨ t = 11 ∨ t = 44 ∨ t = 38 := by simpa [tagsL] using ht
    rcases ht2 with rfl | rfl | rfl | rfl
    · exact rd_69_34 f h34 h11 h44 h38
    · exact rd_69_11 f h34 h11 h44 h38
    · exact rd_69_44 f h34 h11 h44 h38
    · exact rd_69_38 f h34 h11 h44 h38
theorem pw_la {k : Int} (hk : Kd k) (f : Int → Int) (hb : ∀ t ∈ tagsL k, 0 ≤ f t ∧ f t ≤ bnd t) : only (tagsL k) (rdG k (laW k f (tagsL k))) = only (tagsL k) f := by
  funext t
  unfold only
  by_cases ht : t ∈ tagsL k
  · rw [if_pos ht, if_pos ht, rd_la hk f hb t ht]
  · rw [if_neg ht, if_neg ht]
theorem f_rg (x : Inp) (hx : x.Ok) (h : x.e = 0) : ∀ t ∈ tagsL x.k, 0 ≤ x.f t ∧ x.f t ≤ bnd t := by
  intro t ht
  have h1 := F_wd x hx t
  have h2 := (e_zero x h).2
  unfold Inp.told inB at h2
  simp only [Bool.and_eq_true] at h2
  have h3 := List.all_eq_true.1 h2.1 t ht
  unfold Inp.F only at h1
  rw [if_pos ht] at h1
  exact ⟨h1.1, by simpa using h3⟩
theorem fE_rg (x : Evt) (hx : x.Ok) (h : x.e = 0) : ∀ t ∈ tagsL x.k, 0 ≤ x.f t ∧ x.f t ≤ bnd t := by
  intro t ht
  have h1 := FE_wd x hx t
  have h2 := (eE_zero x h).2
  unfold Evt.told inB at h2
  simp only [Bool.and_eq_true] at h2
  have h3 := List.all_eq_true.1 h2.1 t ht
  unfold Evt.F only at h1
  rw [if_pos ht] at h1
  exact ⟨h1.1, by simpa using h3⟩
theorem frame_back (x : Inp) (hx : x.Ok) (h : x.e = 0) : upE x.pk x.pw = 0 ∧ upI x.pk x.pw = x := by
  have hk : x.pk = x.k := by unfold Inp.pk; rw [if_pos h]
  have hw : x.pw = laW x.k x.f (tagsL x.k) := by unfold Inp.pw; rw [if_pos h, pack_words x hx h]
  obtain ⟨h1, h4⟩ := k_range x (e_zero x h).1
  have ht := (e_zero x h).2
  unfold Inp.told at ht
  simp only [Bool.and_eq_true, beq_iff_eq] at ht
  have hr : rdI x.pk x.pw = x := by
    apply l_inj
    unfold rdI
    rw [hk, agnF_l _ _ h1 h4, hw, pw_la (kd_inp x h) x.f (f_rg x hx h)]
    exact ht.2
  have he : upE x.pk x.pw = 0 := by
    unfold upE
    rw [hr, if_pos (by omega), if_pos ⟨h, rfl, rfl⟩]
  refine ⟨he, ?_⟩
  unfold upI
  rw [if_pos he, hr]
theorem frameE_back (x : Evt) (hx : x.Ok) (h : x.e = 0) : uqE x.pk x.pw = 0 ∧ uqI x.pk x.pw = x := by
  have hk : x.pk = x.k := by unfold Evt.pk; rw [if_pos h]
  have hw : x.pw = laW x.k x.f (tagsL x.k) := by unfold Evt.pw; rw [if_pos h, packE_words x hx h]
  obtain ⟨hkd, h1, h4, hkk⟩ := kd_evt x h
  have ht := (eE_zero x h).2
  unfold Evt.told at ht
  simp only [Bool.and_eq_true, beq_iff_eq] at ht
  have hr : rdE x.pk x.pw = x := by
    apply lE_inj
    rw [hk, rdE_l _ _ h1 h4, hw, pw_la hkd x.f (fE_rg x hx h)]
    exact ht.2
  have he : uqE x.pk x.pw = 0 := by
    unfold uqE
    rw [hr, if_pos (by omega), if_pos ⟨h, rfl, rfl⟩]
  refine ⟨he, ?_⟩
  unfold uqI
  rw [if_pos he, hr]
theorem up_kind {k : Int} {l : List Int} (h : upE k l = 0) : 1 ≤ k ∧ k ≤ 4 ∧ (rdI k l).e = 0 ∧ (rdI k l).pk = k ∧ (rdI k l).pw = l ∧ upI k l = rdI k l := by
  have h9 := h
  unfold upE at h
  split at h
  · rename_i hk
    split at h
    · rename_i hc
      exact ⟨hk.1, hk.2, hc.1, hc.2.1, hc.2.2, by unfold upI; rw [if_pos h9]⟩
    · omega
  · omega
theorem uq_kind {k : Int} {l : List Int} (h : uqE k l = 0) : 65 ≤ k ∧ k ≤ 69 ∧ (rdE k l).e = 0 ∧ (rdE k l).pk = k ∧ (rdE k l).pw = l ∧ uqI k l = rdE k l := by
  have h9 := h
  unfold uqE at h
  split at h
  · rename_i hk
    split at h
    · rename_i hc
      exact ⟨hk.1, hk.2, hc.1, hc.2.1, hc.2.2, by unfold uqI; rw [if_pos h9]⟩
    · omega
  · omega
end Go.Proofs.YtacdjioieclggaaDoor.Msg
namespace Go.Proofs.YtacdjioieclggaaDoor.Msg
open Go.RowKit Go.Maps Go.Deep Go.Lib
set_option linter.unusedVariables false
set_option linter.unusedSimpArgs false
theorem orW_wd (a b : Int) : Wd (orW a b) := by
  unfold orW bits
  simp only
  show Wd (_ % 18446744073709551616)
  unfold Wd
  omega
theorem frW_wd (k : Int) (f : Int → Int) (L : List Int) : ∀ a ∈ frW k f L, Wd a := by
  have h : ∀ (L l : List Int), (∀ a ∈ l, Wd a) → ∀ a ∈ L.foldl (fstep k f) l, Wd a := by
    intro L
    induction L with
    | nil => intro l h; exact h
    | cons t L ih =>
      intro l h
      rw [List.foldl_cons]
      refine ih _ fun a ha => ?_
      unfold fstep at ha
      rcases List.mem_or_eq_of_mem_set ha with ha | rfl
      · exact h a ha
      · exact orW_wd _ _
  refine h L zeros fun a ha => ?_
  unfold zeros at ha
  simp at ha
  subst ha
  simp [Wd]
theorem zeros_wd : ∀ a ∈ zeros, Wd a := by
  intro a ha
  unfold zeros at ha
  simp at ha
  subst ha
  simp [Wd]
theorem pw_wd (x : Inp) : ∀ a ∈ x.pw, Wd a := by
  unfold Inp.pw
  split
  · exact frW_wd _ _ _
  · exact zeros_wd
theorem pwE_wd (x : Evt) : ∀ a ∈ x.pw, Wd a := by
  unfold Evt.pw
  split
  · exact frW_wd _ _ _
  · exact zeros_wd
theorem pk_rg (x : Inp) : 0 ≤ x.pk ∧ x.pk < 256 := by
  unfold Inp.pk
  split
  · rename_i h
    have := k_range x (e_zero x h).1
    omega
  · omega
theorem pkE_rg (x : Evt) : 0 ≤ x.pk ∧ x.pk < 256 := by
  unfold Evt.pk
  split
  · rename_i h
    have := kd_evt x h
    omega
  · omega
theorem ln_small (x : Inp) (hx : x.Ok) : (lnB x).length ≤ 2048 := by
  unfold lnB
  split
  · rename_i h
    have h2 := enc_inp x hx h
    unfold encE at h2
    repeat' split at h2
    all_goals first | omega | skip
    all_goals (rename_i h9; simp_all)
  · simp
theorem lnE_small (x : Evt) (hx : x.Ok) : (lnE x).length ≤ 2048 := by
  unfold lnE
  split
  · rename_i h
    have h2 := enc_evt x hx h
    unfold encE at h2
    repeat' split at h2
    all_goals first | omega | skip
    all_goals (rename_i h9; simp_all)
  · simp
set_option maxHeartbeats 16000000 in
set_option maxRecDepth 100000 in
theorem back_walk (x : Inp) (hx : x.Ok) (y : Evt) (hy : y.Ok) (w : World) (hM : LayM w) : Calls Tryd.prog 4 #[.agg x.v, .agg y.v] w fun e w' => e = .returned (.bool true) ∧ Below w.heap.size w w' := by
  have HM := hid hM
  have LV := hid (fun w hM => lives_any w hM)
  have PK := hid (fun w => pack_any x hx w)
  have LI := hid (fun w hL => lineI_any x hx w hL)
  have PE := hid (fun w => packE_any y hy w)
  have LE := hid (fun w hL => lineE_any y hy w hL)
  have BX := hid (frame_back x hx)
  have BY := hid (frameE_back y hy)
  have DX := hid (line_back x hx)
  have DY := hid (lineE_back y hy)
  obtain ⟨a0, a1, a2, a3, a4, a5, a6, hA⟩ := list7 (pw_len x)
  obtain ⟨b0, b1, b2, b3, b4, b5, b6, hB⟩ := list7 (pwE_len y)
  have wa := pw_wd x
  have wb := pwE_wd y
  obtain ⟨ka, kb⟩ := pk_rg x
  obtain ⟨ja, jb⟩ := pkE_rg y
  have sx := ln_small x hx
  have sy := lnE_small y hy
  rw [hA] at PK BX wa
  rw [hB] at PE BY wb
  obtain ⟨K, hK⟩ : ∃ z, x.pk = z := ⟨_, rfl⟩
  obtain ⟨J, hJ⟩ : ∃ z, y.pk = z := ⟨_, rfl⟩
  rw [hK] at PK BX ka kb
  rw [hJ] at PE BY ja jb
  have UP := hid (fun w => unpack_any K a0 a1 a2 a3 a4 a5 a6 ka kb wa w)
  have UQ := hid (fun w => unpackE_any J b0 b1 b2 b3 b4 b5 b6 ja jb wb w)
  have RX := hid (fun q cap w hc hm hS hM => readI_any (lnB x) q cap w (by omega) hc hm hS hM)
  have RY := hid (fun q cap w hc hm hS hM => readE_any (lnE y) q cap w (by omega) hc hm hS hM)
  obtain ⟨LX, hLX⟩ : ∃ z, lnB x = z := ⟨_, rfl⟩
  obtain ⟨LY, hLY⟩ : ∃ z, lnE y = z := ⟨_, rfl⟩
  rw [hLX] at LI DX RX
  rw [hLY] at LE DY RY
  obtain ⟨E, hE⟩ : ∃ z, x.e = z := ⟨_, rfl⟩
  obtain ⟨G, hG⟩ : ∃ z, y.e = z := ⟨_, rfl⟩
  rw [hE] at PK LI BX DX
  rw [hG] at PE LE BY DY
  have q1 := eqI_yes x.ki x.co x.id x.tg x.me x.si x.ty x.pr x.qt x.pe x.en x.ki x.co x.id x.tg x.me x.si x.ty x.pr x.qt x.pe x.en rfl
  have q2 := eqE_yes y.sq y.kd y.id y.ot y.tg y.me y.si y.ty y.pr y.qt y.pe y.re y.co y.sq y.kd y.id y.ot y.tg y.me y.si y.ty y.pr y.qt y.pe y.re y.co rfl
  unfold iV at q1
  unfold eV at q2
  have RX0 := hid (row_on (heap_alloc_new w (.cells x.v 27)) (ball _ (.cells y.v 30)))
  have RY0 := hid (heap2 w (.cells x.v 27) (.cells y.v 30))
  have HB0 := hid (btr (ball w (.cells x.v 27)) (ball _ (.cells y.v 30)))
  clear hA hB hK hJ hLX hLY hE hG hM hx hy wa wb ka kb ja jb sx sy
  unfold Inp.v iV Evt.v eV at *
  have hfa : frV K [a0, a1, a2, a3, a4, a5, a6] = #[.int .u8 K, .int .u64 a0, .int .u64 a1, .int .u64 a2, .int .u64 a3, .int .u64 a4, .int .u64 a5, .int .u64 a6] := rfl
  have hfb : frV J [b0, b1, b2, b3, b4, b5, b6] = #[.int .u8 J, .int .u64 b0, .int .u64 b1, .int .u64 b2, .int .u64 b3, .int .u64 b4, .int .u64 b5, .int .u64 b6] := rfl
  rw [hfa] at PK UP
  rw [hfb] at PE UQ
  clear hfa hfb
  go_enter Tryd.func4, Tryd.ntmps4
  go_wp2_with (first | (go_at_call 13; refine (LV.out _ (HM.out.on HB0.out)).mono ?_; rintro e w1 ⟨rfl, hb⟩; have RX_1 := hid (row_on RX0.out hb); have RY_1 := hid (row_on RY0.out hb); have HB_1 := hid (btr HB0.out hb); clear hb; refine Hid.out ?_))
  clear RX0 RY0 HB0
  obtain ⟨i1_0, i1_1, i1_2, i1_3, i1_4, i1_5, i1_6, i1_7, i1_8, i1_9, i1_10⟩ := cells_I RX_1.out
  refine hid ?_
  go_wp2_with (first | (go_at_call 14; refine (PK.out _).mono ?_; rintro e w2 ⟨rfl, hb⟩; have RX_2 := hid (row_on RX_1.out hb); have RY_2 := hid (row_on RY_1.out hb); have HB_2 := hid (btr HB_1.out hb); clear hb; refine Hid.out ?_))
  clear RX_1 RY_1 HB_1
  clear i1_0 i1_1 i1_2 i1_3 i1_4 i1_5 i1_6 i1_7 i1_8 i1_9 i1_10
  have RX_2a := hid (row_on RX_2.out (ball w2 (.cells (#[.int .u8 K, .int .u64 a0, .int .u64 a1, .int .u64 a2, .int .u64 a3, .int .u64 a4, .int .u64 a5, .int .u64 a6]) 40)))
  have RY_2a := hid (row_on RY_2.out (ball w2 (.cells (#[.int .u8 K, .int .u64 a0, .int .u64 a1, .int .u64 a2, .int .u64 a3, .int .u64 a4, .int .u64 a5, .int .u64 a6]) 40)))
  have RF_2a := hid (heap_alloc_new w2 (.cells (#[.int .u8 K, .int .u64 a0, .int .u64 a1, .int .u64 a2, .int .u64 a3, .int .u64 a4, .int .u64 a5, .int .u64 a6]) 40))
  have HB_2a := hid (btr HB_2.out (ball w2 (.cells (#[.int .u8 K, .int .u64 a0, .int .u64 a1, .int .u64 a2, .int .u64 a3, .int .u64 a4, .int .u64 a5, .int .u64 a6]) 40)))
  clear RX_2 RY_2 HB_2
  obtain ⟨i2_0, i2_1, i2_2, i2_3, i2_4, i2_5, i2_6, i2_7, i2_8, i2_9, i2_10⟩ := cells_I RX_2a.out
  refine hid ?_
  go_wp2_with (first | (go_at_call 8; refine (LI.out _ (HM.out.on HB_2a.out).laye.lay).mono ?_; rintro e w3 ⟨v3, rfl, hO3, hn3⟩; have hb := hO3.2.1; have HO3 := hid hO3; clear hO3 hn3; have RX_3 := hid (row_on RX_2a.out hb); have RY_3 := hid (row_on RY_2a.out hb); have RF_3 := hid (row_on RF_2a.out hb); have HB_3 := hid (btr HB_2a.out hb); clear hb; refine Hid.out ?_))
  clear RX_2a RY_2a RF_2a HB_2a
  clear i2_0 i2_1 i2_2 i2_3 i2_4 i2_5 i2_6 i2_7 i2_8 i2_9 i2_10
  obtain ⟨q3, c3, rfl, hS3, hc3, hm3⟩ := own_cap HO3.out
  have SX := hid hS3
  clear hS3 HO3 LI
  obtain ⟨e3_0, e3_1, e3_2, e3_3, e3_4, e3_5, e3_6, e3_7, e3_8, e3_9, e3_10, e3_11, e3_12⟩ := cells_E RY_3.out
  refine hid ?_
  go_wp2_with (first | (go_at_call 15; refine (PE.out _).mono ?_; rintro e w4 ⟨rfl, hb⟩; have RX_4 := hid (row_on RX_3.out hb); have RY_4 := hid (row_on RY_3.out hb); have RF_4 := hid (row_on RF_3.out hb); have SX_4 := hid (SX.out.on hb); have HB_4 := hid (btr HB_3.out hb); clear hb; refine Hid.out ?_))
  clear RX_3 RY_3 RF_3 SX HB_3
  clear e3_0 e3_1 e3_2 e3_3 e3_4 e3_5 e3_6 e3_7 e3_8 e3_9 e3_10 e3_11 e3_12
  have RX_4a := hid (row_on RX_4.out (ball w4 (.cells (#[.int .u8 J, .int .u64 b0, .int .u64 b1, .int .u64 b2, .int .u64 b3, .int .u64 b4, .int .u64 b5, .int .u64 b6]) 40)))
  have RY_4a := hid (row_on RY_4.out (ball w4 (.cells (#[.int .u8 J, .int .u64 b0, .int .u64 b1, .int .u64 b2, .int .u64 b3, .int .u64 b4, .int .u64 b5, .int .u64 b6]) 40)))
  have RF_4a := hid (row_on RF_4.out (ball w4 (.cells (#[.int .u8 J, .int .u64 b0, .int .u64 b1, .int .u64 b2, .int .u64 b3, .int .u64 b4, .int .u64 b5, .int .u64 b6]) 40)))
  have SX_4a := hid (SX_4.out.on (ball w4 (.cells (#[.int .u8 J, .int .u64 b0, .int .u64 b1, .int .u64 b2, .int .u64 b3, .int .u64 b4, .int .u64 b5, .int .u64 b6]) 40)))
  have RG_4a := hid (heap_alloc_new w4 (.cells (#[.int .u8 J, .int .u64 b0, .int .u64 b1, .int .u64 b2, .int .u64 b3, .int .u64 b4, .int .u64 b5, .int .u64 b6]) 40))
  have HB_4a := hid (btr HB_4.out (ball w4 (.cells (#[.int .u8 J, .int .u64 b0, .int .u64 b1, .int .u64 b2, .int .u64 b3, .int .u64 b4, .int .u64 b5, .int .u64 b6]) 40)))
  clear RX_4 RY_4 RF_4 SX_4 HB_4
  obtain ⟨e4_0, e4_1, e4_2, e4_3, e4_4, e4_5, e4_6, e4_7, e4_8, e4_9, e4_10, e4_11, e4_12⟩ := cells_E RY_4a.out
  refine hid ?_
  go_wp2_with (first | (go_at_call 10; refine (LE.out _ (HM.out.on HB_4a.out).laye.lay).mono ?_; rintro e w5 ⟨v5, rfl, hO5, hn5⟩; have hb := hO5.2.1; have HO5 := hid hO5; clear hO5 hn5; have RX_5 := hid (row_on RX_4a.out hb); have RY_5 := hid (row_on RY_4a.out hb); have RF_5 := hid (row_on RF_4a.out hb); have RG_5 := hid (row_on RG_4a.out hb); have SX_5 := hid (SX_4a.out.on hb); have HB_5 := hid (btr HB_4a.out hb); clear hb; refine Hid.out ?_))
  clear RX_4a RY_4a RF_4a RG_4a SX_4a HB_4a
  clear e4_0 e4_1 e4_2 e4_3 e4_4 e4_5 e4_6 e4_7 e4_8 e4_9 e4_10 e4_11 e4_12
  obtain ⟨q5, c5, rfl, hS5, hc5, hm5⟩ := own_cap HO5.out
  have SY := hid hS5
  clear hS5 HO5 LE PK PE LV
  by_cases h0 : E = 0
  · subst h0
    rw [(BX.out rfl).1, (BX.out rfl).2] at UP
    rw [DX.out rfl] at RX
    simp only at RX
    clear BX DX
    by_cases g0 : G = 0
    · subst g0
      rw [(BY.out rfl).1, (BY.out rfl).2] at UQ
      rw [DY.out rfl] at RY
      simp only at RY
      clear BY DY
      obtain ⟨f5_0, f5_1, f5_2, f5_3, f5_4, f5_5, f5_6, f5_7⟩ := cells_F (k := K) (a0 := a0) (a1 := a1) (a2 := a2) (a3 := a3) (a4 := a4) (a5 := a5) (a6 := a6) RF_5.out
      refine hid ?_
      go_wp2_with (first | (go_at_call 16; refine (UP.out _).mono ?_; rintro e w6 ⟨rfl, hb⟩; have RX_6 := hid (row_on RX_5.out hb); have RY_6 := hid (row_on RY_5.out hb); have RF_6 := hid (row_on RF_5.out hb); have RG_6 := hid (row_on RG_5.out hb); have SX_6 := hid (SX_5.out.on hb); have SY_6 := hid (SY.out.on hb); have HB_6 := hid (btr HB_5.out hb); clear hb; refine Hid.out ?_))
      clear RX_5 RY_5 RF_5 RG_5 SX_5 SY HB_5
      clear f5_0 f5_1 f5_2 f5_3 f5_4 f5_5 f5_6 f5_7
      have RX_6a := hid (row_on RX_6.out (ball w6 (.cells (#[.int .i64 x.ki, .int .i64 x.co, .int .u64 x.id, .int .u64 x.tg, .int .u32 x.me, .int .i64 x.si, .int .i64 x.ty, .int .i64 x.pr, .int .u64 x.qt, .int .u64 x.pe, .int .i64 x.en]) 27)))
      have RY_6a := hid (row_on RY_6.out (ball w6 (.cells (#[.int .i64 x.ki, .int .i64 x.co, .int .u64 x.id, .int .u64 x.tg, .int .u32 x.me, .int .i64 x.si, .int .i64 x.ty, .int .i64 x.pr, .int .u64 x.qt, .int .u64 x.pe, .int .i64 x.en]) 27)))
      have RF_6a := hid (row_on RF_6.out (ball w6 (.cells (#[.int .i64 x.ki, .int .i64 x.co, .int .u64 x.id, .int .u64 x.tg, .int .u32 x.me, .int .i64 x.si, .int .i64 x.ty, .int .i64 x.pr, .int .u64 x.qt, .int .u64 x.pe, .int .i64 x.en]) 27)))
      have RG_6a := hid (row_on RG_6.out (ball w6 (.cells (#[.int .i64 x.ki, .int .i64 x.co, .int .u64 x.id, .int .u64 x.tg, .int .u32 x.me, .int .i64 x.si, .int .i64 x.ty, .int .i64 x.pr, .int .u64 x.qt, .int .u64 x.pe, .int .i64 x.en]) 27)))
      have SX_6a := hid (SX_6.out.on (ball w6 (.cells (#[.int .i64 x.ki, .int .i64 x.co, .int .u64 x.id, .int .u64 x.tg, .int .u32 x.me, .int .i64 x.si, .int .i64 x.ty, .int .i64 x.pr, .int .u64 x.qt, .int .u64 x.pe, .int .i64 x.en]) 27)))
      have SY_6a := hid (SY_6.out.on (ball w6 (.cells (#[.int .i64 x.ki, .int .i64 x.co, .int .u64 x.id, .int .u64 x.tg, .int .u32 x.me, .int .i64 x.si, .int .i64 x.ty, .int .i64 x.pr, .int .u64 x.qt, .int .u64 x.pe, .int .i64 x.en]) 27)))
      have RA_6a := hid (heap_alloc_new w6 (.cells (#[.int .i64 x.ki, .int .i64 x.co, .int .u64 x.id, .int .u64 x.tg, .int .u32 x.me, .int .i64 x.si, .int .i64 x.ty, .int .i64 x.pr, .int .u64 x.qt, .int .u64 x.pe, .int .i64 x.en]) 27))
      have HB_6a := hid (btr HB_6.out (ball w6 (.cells (#[.int .i64 x.ki, .int .i64 x.co, .int .u64 x.id, .int .u64 x.tg, .int .u32 x.me, .int .i64 x.si, .int .i64 x.ty, .int .i64 x.pr, .int .u64 x.qt, .int .u64 x.pe, .int .i64 x.en]) 27)))
      clear RX_6 RY_6 RF_6 RG_6 SX_6 SY_6 HB_6
      refine hid ?_
      go_wp2_with (first | (go_at_call 17; refine (RX.out q3 c3 _ hc3 hm3 SX_6a.out (HM.out.on HB_6a.out)).mono ?_; rintro e w7 ⟨rfl, hb⟩; have RX_7 := hid (row_on RX_6a.out hb); have RY_7 := hid (row_on RY_6a.out hb); have RF_7 := hid (row_on RF_6a.out hb); have RG_7 := hid (row_on RG_6a.out hb); have RA_7 := hid (row_on RA_6a.out hb); have SX_7 := hid (SX_6a.out.on hb); have SY_7 := hid (SY_6a.out.on hb); have HB_7 := hid (btr HB_6a.out hb); clear hb; refine Hid.out ?_))
      clear RX_6a RY_6a RF_6a RG_6a RA_6a SX_6a SY_6a HB_6a
      have RX_7a := hid (row_on RX_7.out (ball w7 (.cells (#[.int .i64 x.ki, .int .i64 x.co, .int .u64 x.id, .int .u64 x.tg, .int .u32 x.me, .int .i64 x.si, .int .i64 x.ty, .int .i64 x.pr, .int .u64 x.qt, .int .u64 x.pe, .int .i64 x.en]) 27)))
      have RY_7a := hid (row_on RY_7.out (ball w7 (.cells (#[.int .i64 x.ki, .int .i64 x.co, .int .u64 x.id, .int .u64 x.tg, .int .u32 x.me, .int .i64 x.si, .int .i64 x.ty, .int .i64 x.pr, .int .u64 x.qt, .int .u64 x.pe, .int .i64 x.en]) 27)))
      have RF_7a := hid (row_on RF_7.out (ball w7 (.cells (#[.int .i64 x.ki, .int .i64 x.co, .int .u64 x.id, .int .u64 x.tg, .int .u32 x.me, .int .i64 x.si, .int .i64 x.ty, .int .i64 x.pr, .int .u64 x.qt, .int .u64 x.pe, .int .i64 x.en]) 27)))
      have RG_7a := hid (row_on RG_7.out (ball w7 (.cells (#[.int .i64 x.ki, .int .i64 x.co, .int .u64 x.id, .int .u64 x.tg, .int .u32 x.me, .int .i64 x.si, .int .i64 x.ty, .int .i64 x.pr, .int .u64 x.qt, .int .u64 x.pe, .int .i64 x.en]) 27)))
      have RA_7a := hid (row_on RA_7.out (ball w7 (.cells (#[.int .i64 x.ki, .int .i64 x.co, .int .u64 x.id, .int .u64 x.tg, .int .u32 x.me, .int .i64 x.si, .int .i64 x.ty, .int .i64 x.pr, .int .u64 x.qt, .int .u64 x.pe, .int .i64 x.en]) 27)))
      have SX_7a := hid (SX_7.out.on (ball w7 (.cells (#[.int .i64 x.ki, .int .i64 x.co, .int .u64 x.id, .int .u64 x.tg, .int .u32 x.me, .int .i64 x.si, .int .i64 x.ty, .int .i64 x.pr, .int .u64 x.qt, .int .u64 x.pe, .int .i64 x.en]) 27)))
      have SY_7a := hid (SY_7.out.on (ball w7 (.cells (#[.int .i64 x.ki, .int .i64 x.co, .int .u64 x.id, .int .u64 x.tg, .int .u32 x.me, .int .i64 x.si, .int .i64 x.ty, .int .i64 x.pr, .int .u64 x.qt, .int .u64 x.pe, .int .i64 x.en]) 27)))
      have RB_7a := hid (heap_alloc_new w7 (.cells (#[.int .i64 x.ki, .int .i64 x.co, .int .u64 x.id, .int .u64 x.tg, .int .u32 x.me, .int .i64 x.si, .int .i64 x.ty, .int .i64 x.pr, .int .u64 x.qt, .int .u64 x.pe, .int .i64 x.en]) 27))
      have HB_7a := hid (btr HB_7.out (ball w7 (.cells (#[.int .i64 x.ki, .int .i64 x.co, .int .u64 x.id, .int .u64 x.tg, .int .u32 x.me, .int .i64 x.si, .int .i64 x.ty, .int .i64 x.pr, .int .u64 x.qt, .int .u64 x.pe, .int .i64 x.en]) 27)))
      clear RX_7 RY_7 RF_7 RG_7 RA_7 SX_7 SY_7 HB_7
      obtain ⟨i6_0, i6_1, i6_2, i6_3, i6_4, i6_5, i6_6, i6_7, i6_8, i6_9, i6_10⟩ := cells_I RA_7a.out
      obtain ⟨i7_0, i7_1, i7_2, i7_3, i7_4, i7_5, i7_6, i7_7, i7_8, i7_9, i7_10⟩ := cells_I RX_7a.out
      obtain ⟨i8_0, i8_1, i8_2, i8_3, i8_4, i8_5, i8_6, i8_7, i8_8, i8_9, i8_10⟩ := cells_I RB_7a.out
      obtain ⟨f9_0, f9_1, f9_2, f9_3, f9_4, f9_5, f9_6, f9_7⟩ := cells_F (k := J) (a0 := b0) (a1 := b1) (a2 := b2) (a3 := b3) (a4 := b4) (a5 := b5) (a6 := b6) RG_7a.out
      refine hid ?_
      go_wp2_with (first | (go_at_call 18; refine (UQ.out _).mono ?_; rintro e w8 ⟨rfl, hb⟩; have RX_8 := hid (row_on RX_7a.out hb); have RY_8 := hid (row_on RY_7a.out hb); have RF_8 := hid (row_on RF_7a.out hb); have RG_8 := hid (row_on RG_7a.out hb); have RA_8 := hid (row_on RA_7a.out hb); have RB_8 := hid (row_on RB_7a.out hb); have SX_8 := hid (SX_7a.out.on hb); have SY_8 := hid (SY_7a.out.on hb); have HB_8 := hid (btr HB_7a.out hb); clear hb; refine Hid.out ?_))
      clear RX_7a RY_7a RF_7a RG_7a RA_7a RB_7a SX_7a SY_7a HB_7a
      clear i6_0 i6_1 i6_2 i6_3 i6_4 i6_5 i6_6 i6_7 i6_8 i6_9 i6_10 i7_0 i7_1 i7_2 i7_3 i7_4 i7_5 i7_6 i7_7 i7_8 i7_9 i7_10 i8_0 i8_1 i8_2 i8_3 i8_4 i8_5 i8_6 i8_7 i8_8 i8_9 i8_10 f9_0 f9_1 f9_2 f9_3 f9_4 f9_5 f9_6 f9_7
      have RX_8a := hid (row_on RX_8.out (ball w8 (.cells (#[.int .u64 y.sq, .int .i64 y.kd, .int .u64 y.id, .int .u64 y.ot, .int .u64 y.tg, .int .u32 y.me, .int .i64 y.si, .int .i64 y.ty, .int .i64 y.pr, .int .u64 y.qt, .int .u64 y.pe, .int .i64 y.re, .int .i64 y.co]) 30)))
      have RY_8a := hid (row_on RY_8.out (ball w8 (.cells (#[.int .u64 y.sq, .int .i64 y.kd, .int .u64 y.id, .int .u64 y.ot, .int .u64 y.tg, .int .u32 y.me, .int .i64 y.si, .int .i64 y.ty, .int .i64 y.pr, .int .u64 y.qt, .int .u64 y.pe, .int .i64 y.re, .int .i64 y.co]) 30)))
      have RF_8a := hid (row_on RF_8.out (ball w8 (.cells (#[.int .u64 y.sq, .int .i64 y.kd, .int .u64 y.id, .int .u64 y.ot, .int .u64 y.tg, .int .u32 y.me, .int .i64 y.si, .int .i64 y.ty, .int .i64 y.pr, .int .u64 y.qt, .int .u64 y.pe, .int .i64 y.re, .int .i64 y.co]) 30)))
      have RG_8a := hid (row_on RG_8.out (ball w8 (.cells (#[.int .u64 y.sq, .int .i64 y.kd, .int .u64 y.id, .int .u64 y.ot, .int .u64 y.tg, .int .u32 y.me, .int .i64 y.si, .int .i64 y.ty, .int .i64 y.pr, .int .u64 y.qt, .int .u64 y.pe, .int .i64 y.re, .int .i64 y.co]) 30)))
      have RA_8a := hid (row_on RA_8.out (ball w8 (.cells (#[.int .u64 y.sq, .int .i64 y.kd, .int .u64 y.id, .int .u64 y.ot, .int .u64 y.tg, .int .u32 y.me, .int .i64 y.si, .int .i64 y.ty, .int .i64 y.pr, .int .u64 y.qt, .int .u64 y.pe, .int .i64 y.re, .int .i64 y.co]) 30)))
      have RB_8a := hid (row_on RB_8.out (ball w8 (.cells (#[.int .u64 y.sq, .int .i64 y.kd, .int .u64 y.id, .int .u64 y.ot, .int .u64 y.tg, .int .u32 y.me, .int .i64 y.si, .int .i64 y.ty, .int .i64 y.pr, .int .u64 y.qt, .int .u64 y.pe, .int .i64 y.re, .int .i64 y.co]) 30)))
      have SX_8a := hid (SX_8.out.on (ball w8 (.cells (#[.int .u64 y.sq, .int .i64 y.kd, .int .u64 y.id, .int .u64 y.ot, .int .u64 y.tg, .int .u32 y.me, .int .i64 y.si, .int .i64 y.ty, .int .i64 y.pr, .int .u64 y.qt, .int .u64 y.pe, .int .i64 y.re, .int .i64 y.co]) 30)))
      have SY_8a := hid (SY_8.out.on (ball w8 (.cells (#[.int .u64 y.sq, .int .i64 y.kd, .int .u64 y.id, .int .u64 y.ot, .int .u64 y.tg, .int .u32 y.me, .int .i64 y.si, .int .i64 y.ty, .int .i64 y.pr, .int .u64 y.qt, .int .u64 y.pe, .int .i64 y.re, .int .i64 y.co]) 30)))
      have RC_8a := hid (heap_alloc_new w8 (.cells (#[.int .u64 y.sq, .int .i64 y.kd, .int .u64 y.id, .int .u64 y.ot, .int .u64 y.tg, .int .u32 y.me, .int .i64 y.si, .int .i64 y.ty, .int .i64 y.pr, .int .u64 y.qt, .int .u64 y.pe, .int .i64 y.re, .int .i64 y.co]) 30))
      have HB_8a := hid (btr HB_8.out (ball w8 (.cells (#[.int .u64 y.sq, .int .i64 y.kd, .int .u64 y.id, .int .u64 y.ot, .int .u64 y.tg, .int .u32 y.me, .int .i64 y.si, .int .i64 y.ty, .int .i64 y.pr, .int .u64 y.qt, .int .u64 y.pe, .int .i64 y.re, .int .i64 y.co]) 30)))
      clear RX_8 RY_8 RF_8 RG_8 RA_8 RB_8 SX_8 SY_8 HB_8
      refine hid ?_
      go_wp2_with (first | (go_at_call 19; refine (RY.out q5 c5 _ hc5 hm5 SY_8a.out (HM.out.on HB_8a.out)).mono ?_; rintro e w9 ⟨rfl, hb⟩; have RX_9 := hid (row_on RX_8a.out hb); have RY_9 := hid (row_on RY_8a.out hb); have RF_9 := hid (row_on RF_8a.out hb); have RG_9 := hid (row_on RG_8a.out hb); have RA_9 := hid (row_on RA_8a.out hb); have RB_9 := hid (row_on RB_8a.out hb); have RC_9 := hid (row_on RC_8a.out hb); have SX_9 := hid (SX_8a.out.on hb); have SY_9 := hid (SY_8a.out.on hb); have HB_9 := hid (btr HB_8a.out hb); clear hb; refine Hid.out ?_))
      clear RX_8a RY_8a RF_8a RG_8a RA_8a RB_8a RC_8a SX_8a SY_8a HB_8a
      have RX_9a := hid (row_on RX_9.out (ball w9 (.cells (#[.int .u64 y.sq, .int .i64 y.kd, .int .u64 y.id, .int .u64 y.ot, .int .u64 y.tg, .int .u32 y.me, .int .i64 y.si, .int .i64 y.ty, .int .i64 y.pr, .int .u64 y.qt, .int .u64 y.pe, .int .i64 y.re, .int .i64 y.co]) 30)))
      have RY_9a := hid (row_on RY_9.out (ball w9 (.cells (#[.int .u64 y.sq, .int .i64 y.kd, .int .u64 y.id, .int .u64 y.ot, .int .u64 y.tg, .int .u32 y.me, .int .i64 y.si, .int .i64 y.ty, .int .i64 y.pr, .int .u64 y.qt, .int .u64 y.pe, .int .i64 y.re, .int .i64 y.co]) 30)))
      have RF_9a := hid (row_on RF_9.out (ball w9 (.cells (#[.int .u64 y.sq, .int .i64 y.kd, .int .u64 y.id, .int .u64 y.ot, .int .u64 y.tg, .int .u32 y.me, .int .i64 y.si, .int .i64 y.ty, .int .i64 y.pr, .int .u64 y.qt, .int .u64 y.pe, .int .i64 y.re, .int .i64 y.co]) 30)))
      have RG_9a := hid (row_on RG_9.out (ball w9 (.cells (#[.int .u64 y.sq, .int .i64 y.kd, .int .u64 y.id, .int .u64 y.ot, .int .u64 y.tg, .int .u32 y.me, .int .i64 y.si, .int .i64 y.ty, .int .i64 y.pr, .int .u64 y.qt, .int .u64 y.pe, .int .i64 y.re, .int .i64 y.co]) 30)))
      have RA_9a := hid (row_on RA_9.out (ball w9 (.cells (#[.int .u64 y.sq, .int .i64 y.kd, .int .u64 y.id, .int .u64 y.ot, .int .u64 y.tg, .int .u32 y.me, .int .i64 y.si, .int .i64 y.ty, .int .i64 y.pr, .int .u64 y.qt, .int .u64 y.pe, .int .i64 y.re, .int .i64 y.co]) 30)))
      have RB_9a := hid (row_on RB_9.out (ball w9 (.cells (#[.int .u64 y.sq, .int .i64 y.kd, .int .u64 y.id, .int .u64 y.ot, .int .u64 y.tg, .int .u32 y.me, .int .i64 y.si, .int .i64 y.ty, .int .i64 y.pr, .int .u64 y.qt, .int .u64 y.pe, .int .i64 y.re, .int .i64 y.co]) 30)))
      have RC_9a := hid (row_on RC_9.out (ball w9 (.cells (#[.int .u64 y.sq, .int .i64 y.kd, .int .u64 y.id, .int .u64 y.ot, .int .u64 y.tg, .int .u32 y.me, .int .i64 y.si, .int .i64 y.ty, .int .i64 y.pr, .int .u64 y.qt, .int .u64 y.pe, .int .i64 y.re, .int .i64 y.co]) 30)))
      have SX_9a := hid (SX_9.out.on (ball w9 (.cells (#[.int .u64 y.sq, .int .i64 y.kd, .int .u64 y.id, .int .u64 y.ot, .int .u64 y.tg, .int .u32 y.me, .int .i64 y.si, .int .i64 y.ty, .int .i64 y.pr, .int .u64 y.qt, .int .u64 y.pe, .int .i64 y.re, .int .i64 y.co]) 30)))
      have SY_9a := hid (SY_9.out.on (ball w9 (.cells (#[.int .u64 y.sq, .int .i64 y.kd, .int .u64 y.id, .int .u64 y.ot, .int .u64 y.tg, .int .u32 y.me, .int .i64 y.si, .int .i64 y.ty, .int .i64 y.pr, .int .u64 y.qt, .int .u64 y.pe, .int .i64 y.re, .int .i64 y.co]) 30)))
      have RD_9a := hid (heap_alloc_new w9 (.cells (#[.int .u64 y.sq, .int .i64 y.kd, .int .u64 y.id, .int .u64 y.ot, .int .u64 y.tg, .int .u32 y.me, .int .i64 y.si, .int .i64 y.ty, .int .i64 y.pr, .int .u64 y.qt, .int .u64 y.pe, .int .i64 y.re, .int .i64 y.co]) 30))
      have HB_9a := hid (btr HB_9.out (ball w9 (.cells (#[.int .u64 y.sq, .int .i64 y.kd, .int .u64 y.id, .int .u64 y.ot, .int .u64 y.tg, .int .u32 y.me, .int .i64 y.si, .int .i64 y.ty, .int .i64 y.pr, .int .u64 y.qt, .int .u64 y.pe, .int .i64 y.re, .int .i64 y.co]) 30)))
      clear RX_9 RY_9 RF_9 RG_9 RA_9 RB_9 RC_9 SX_9 SY_9 HB_9
      obtain ⟨e10_0, e10_1, e10_2, e10_3, e10_4, e10_5, e10_6, e10_7, e10_8, e10_9, e10_10, e10_11, e10_12⟩ := cells_E RC_9a.out
      obtain ⟨e11_0, e11_1, e11_2, e11_3, e11_4, e11_5, e11_6, e11_7, e11_8, e11_9, e11_10, e11_11, e11_12⟩ := cells_E RY_9a.out
      obtain ⟨e12_0, e12_1, e12_2, e12_3, e12_4, e12_5, e12_6, e12_7, e12_8, e12_9, e12_10, e12_11, e12_12⟩ := cells_E RD_9a.out
      refine hid ?_
      go_wp2
      go_ret
      exact ⟨by simp, HB_9a.out⟩
    · have g0f : (G == 0) = false := by simpa using g0
      clear g0 UQ RY
      clear BY DY
      obtain ⟨f13_0, f13_1, f13_2, f13_3, f13_4, f13_5, f13_6, f13_7⟩ := cells_F (k := K) (a0 := a0) (a1 := a1) (a2 := a2) (a3 := a3) (a4 := a4) (a5 := a5) (a6 := a6) RF_5.out
      refine hid ?_
      go_wp2_with (first | (go_at_call 16; refine (UP.out _).mono ?_; rintro e w6 ⟨rfl, hb⟩; have RX_6 := hid (row_on RX_5.out hb); have RY_6 := hid (row_on RY_5.out hb); have RF_6 := hid (row_on RF_5.out hb); have RG_6 := hid (row_on RG_5.out hb); have SX_6 := hid (SX_5.out.on hb); have SY_6 := hid (SY.out.on hb); have HB_6 := hid (btr HB_5.out hb); clear hb; refine Hid.out ?_))
      clear RX_5 RY_5 RF_5 RG_5 SX_5 SY HB_5
      clear f13_0 f13_1 f13_2 f13_3 f13_4 f13_5 f13_6 f13_7
      have RX_6a := hid (row_on RX_6.out (ball w6 (.cells (#[.int .i64 x.ki, .int .i64 x.co, .int .u64 x.id, .int .u64 x.tg, .int .u32 x.me, .int .i64 x.si, .int .i64 x.ty, .int .i64 x.pr, .int .u64 x.qt, .int .u64 x.pe, .int .i64 x.en]) 27)))
      have RY_6a := hid (row_on RY_6.out (ball w6 (.cells (#[.int .i64 x.ki, .int .i64 x.co, .int .u64 x.id, .int .u64 x.tg, .int .u32 x.me, .int .i64 x.si, .int .i64 x.ty, .int .i64 x.pr, .int .u64 x.qt, .int .u64 x.pe, .int .i64 x.en]) 27)))
      have RF_6a := hid (row_on RF_6.out (ball w6 (.cells (#[.int .i64 x.ki, .int .i64 x.co, .int .u64 x.id, .int .u64 x.tg, .int .u32 x.me, .int .i64 x.si, .int .i64 x.ty, .int .i64 x.pr, .int .u64 x.qt, .int .u64 x.pe, .int .i64 x.en]) 27)))
      have RG_6a := hid (row_on RG_6.out (ball w6 (.cells (#[.int .i64 x.ki, .int .i64 x.co, .int .u64 x.id, .int .u64 x.tg, .int .u32 x.me, .int .i64 x.si, .int .i64 x.ty, .int .i64 x.pr, .int .u64 x.qt, .int .u64 x.pe, .int .i64 x.en]) 27)))
      have SX_6a := hid (SX_6.out.on (ball w6 (.cells (#[.int .i64 x.ki, .int .i64 x.co, .int .u64 x.id, .int .u64 x.tg, .int .u32 x.me, .int .i64 x.si, .int .i64 x.ty, .int .i64 x.pr, .int .u64 x.qt, .int .u64 x.pe, .int .i64 x.en]) 27)))
      have SY_6a := hid (SY_6.out.on (ball w6 (.cells (#[.int .i64 x.ki, .int .i64 x.co, .int .u64 x.id, .int .u64 x.tg, .int .u32 x.me, .int .i64 x.si, .int .i64 x.ty, .int .i64 x.pr, .int .u64 x.qt, .int .u64 x.pe, .int .i64 x.en]) 27)))
      have RA_6a := hid (heap_alloc_new w6 (.cells (#[.int .i64 x.ki, .int .i64 x.co, .int .u64 x.id, .int .u64 x.tg, .int .u32 x.me, .int .i64 x.si, .int .i64 x.ty, .int .i64 x.pr, .int .u64 x.qt, .int .u64 x.pe, .int .i64 x.en]) 27))
      have HB_6a := hid (btr HB_6.out (ball w6 (.cells (#[.int .i64 x.ki, .int .i64 x.co, .int .u64 x.id, .int .u64 x.tg, .int .u32 x.me, .int .i64 x.si, .int .i64 x.ty, .int .i64 x.pr, .int .u64 x.qt, .int .u64 x.pe, .int .i64 x.en]) 27)))
      clear RX_6 RY_6 RF_6 RG_6 SX_6 SY_6 HB_6
      refine hid ?_
      go_wp2_with (first | (go_at_call 17; refine (RX.out q3 c3 _ hc3 hm3 SX_6a.out (HM.out.on HB_6a.out)).mono ?_; rintro e w7 ⟨rfl, hb⟩; have RX_7 := hid (row_on RX_6a.out hb); have RY_7 := hid (row_on RY_6a.out hb); have RF_7 := hid (row_on RF_6a.out hb); have RG_7 := hid (row_on RG_6a.out hb); have RA_7 := hid (row_on RA_6a.out hb); have SX_7 := hid (SX_6a.out.on hb); have SY_7 := hid (SY_6a.out.on hb); have HB_7 := hid (btr HB_6a.out hb); clear hb; refine Hid.out ?_))
      clear RX_6a RY_6a RF_6a RG_6a RA_6a SX_6a SY_6a HB_6a
      have RX_7a := hid (row_on RX_7.out (ball w7 (.cells (#[.int .i64 x.ki, .int .i64 x.co, .int .u64 x.id, .int .u64 x.tg, .int .u32 x.me, .int .i64 x.si, .int .i64 x.ty, .int .i64 x.pr, .int .u64 x.qt, .int .u64 x.pe, .int .i64 x.en]) 27)))
      have RY_7a := hid (row_on RY_7.out (ball w7 (.cells (#[.int .i64 x.ki, .int .i64 x.co, .int .u64 x.id, .int .u64 x.tg, .int .u32 x.me, .int .i64 x.si, .int .i64 x.ty, .int .i64 x.pr, .int .u64 x.qt, .int .u64 x.pe, .int .i64 x.en]) 27)))
      have RF_7a := hid (row_on RF_7.out (ball w7 (.cells (#[.int .i64 x.ki, .int .i64 x.co, .int .u64 x.id, .int .u64 x.tg, .int .u32 x.me, .int .i64 x.si, .int .i64 x.ty, .int .i64 x.pr, .int .u64 x.qt, .int .u64 x.pe, .int .i64 x.en]) 27)))
      have RG_7a := hid (row_on RG_7.out (ball w7 (.cells (#[.int .i64 x.ki, .int .i64 x.co, .int .u64 x.id, .int .u64 x.tg, .int .u32 x.me, .int .i64 x.si, .int .i64 x.ty, .int .i64 x.pr, .int .u64 x.qt, .int .u64 x.pe, .int .i64 x.en]) 27)))
      have RA_7a := hid (row_on RA_7.out (ball w7 (.cells (#[.int .i64 x.ki, .int .i64 x.co, .int .u64 x.id, .int .u64 x.tg, .int .u32 x.me, .int .i64 x.si, .int .i64 x.ty, .int .i64 x.pr, .int .u64 x.qt, .int .u64 x.pe, .int .i64 x.en]) 27)))
      have SX_7a := hid (SX_7.out.on (ball w7 (.cells (#[.int .i64 x.ki, .int .i64 x.co, .int .u64 x.id, .int .u64 x.tg, .int .u32 x.me, .int .i64 x.si, .int .i64 x.ty, .int .i64 x.pr, .int .u64 x.qt, .int .u64 x.pe, .int .i64 x.en]) 27)))
      have SY_7a := hid (SY_7.out.on (ball w7 (.cells (#[.int .i64 x.ki, .int .i64 x.co, .int .u64 x.id, .int .u64 x.tg, .int .u32 x.me, .int .i64 x.si, .int .i64 x.ty, .int .i64 x.pr, .int .u64 x.qt, .int .u64 x.pe, .int .i64 x.en]) 27)))
      have RB_7a := hid (heap_alloc_new w7 (.cells (#[.int .i64 x.ki, .int .i64 x.co, .int .u64 x.id, .int .u64 x.tg, .int .u32 x.me, .int .i64 x.si, .int .i64 x.ty, .int .i64 x.pr, .int .u64 x.qt, .int .u64 x.pe, .int .i64 x.en]) 27))
      have HB_7a := hid (btr HB_7.out (ball w7 (.cells (#[.int .i64 x.ki, .int .i64 x.co, .int .u64 x.id, .int .u64 x.tg, .int .u32 x.me, .int .i64 x.si, .int .i64 x.ty, .int .i64 x.pr, .int .u64 x.qt, .int .u64 x.pe, .int .i64 x.en]) 27)))
      clear RX_7 RY_7 RF_7 RG_7 RA_7 SX_7 SY_7 HB_7
      obtain ⟨i14_0, i14_1, i14_2, i14_3, i14_4, i14_5, i14_6, i14_7, i14_8, i14_9, i14_10⟩ := cells_I RA_7a.out
      obtain ⟨i15_0, i15_1, i15_2, i15_3, i15_4, i15_5, i15_6, i15_7, i15_8, i15_9, i15_10⟩ := cells_I RX_7a.out
      obtain ⟨i16_0, i16_1, i16_2, i16_3, i16_4, i16_5, i16_6, i16_7, i16_8, i16_9, i16_10⟩ := cells_I RB_7a.out
      refine hid ?_
      go_wp2
      go_ret
      exact ⟨by simp, HB_7a.out⟩
  · have h0f : (E == 0) = false := by simpa using h0
    clear h0 UP RX
    clear BX DX
    by_cases g0 : G = 0
    · subst g0
      rw [(BY.out rfl).1, (BY.out rfl).2] at UQ
      rw [DY.out rfl] at RY
      simp only at RY
      clear BY DY
      obtain ⟨f17_0, f17_1, f17_2, f17_3, f17_4, f17_5, f17_6, f17_7⟩ := cells_F (k := J) (a0 := b0) (a1 := b1) (a2 := b2) (a3 := b3) (a4 := b4) (a5 := b5) (a6 := b6) RG_5.out
      refine hid ?_
      go_wp2_with (first | (go_at_call 18; refine (UQ.out _).mono ?_; rintro e w6 ⟨rfl, hb⟩; have RX_6 := hid (row_on RX_5.out hb); have RY_6 := hid (row_on RY_5.out hb); have RF_6 := hid (row_on RF_5.out hb); have RG_6 := hid (row_on RG_5.out hb); have SX_6 := hid (SX_5.out.on hb); have SY_6 := hid (SY.out.on hb); have HB_6 := hid (btr HB_5.out hb); clear hb; refine Hid.out ?_))
      clear RX_5 RY_5 RF_5 RG_5 SX_5 SY HB_5
      clear f17_0 f17_1 f17_2 f17_3 f17_4 f17_5 f17_6 f17_7
      have RX_6a := hid (row_on RX_6.out (ball w6 (.cells (#[.int .u64 y.sq, .int .i64 y.kd, .int .u64 y.id, .int .u64 y.ot, .int .u64 y.tg, .int .u32 y.me, .int .i64 y.si, .int .i64 y.ty, .int .i64 y.pr, .int .u64 y.qt, .int .u64 y.pe, .int .i64 y.re, .int .i64 y.co]) 30)))
      have RY_6a := hid (row_on RY_6.out (ball w6 (.cells (#[.int .u64 y.sq, .int .i64 y.kd, .int .u64 y.id, .int .u64 y.ot, .int .u64 y.tg, .int .u32 y.me, .int .i64 y.si, .int .i64 y.ty, .int .i64 y.pr, .int .u64 y.qt, .int .u64 y.pe, .int .i64 y.re, .int .i64 y.co]) 30)))
      have RF_6a := hid (row_on RF_6.out (ball w6 (.cells (#[.int .u64 y.sq, .int .i64 y.kd, .int .u64 y.id, .int .u64 y.ot, .int .u64 y.tg, .int .u32 y.me, .int .i64 y.si, .int .i64 y.ty, .int .i64 y.pr, .int .u64 y.qt, .int .u64 y.pe, .int .i64 y.re, .int .i64 y.co]) 30)))
      have RG_6a := hid (row_on RG_6.out (ball w6 (.cells (#[.int .u64 y.sq, .int .i64 y.kd, .int .u64 y.id, .int .u64 y.ot, .int .u64 y.tg, .int .u32 y.me, .int .i64 y.si, .int .i64 y.ty, .int .i64 y.pr, .int .u64 y.qt, .int .u64 y.pe, .int .i64 y.re, .int .i64 y.co]) 30)))
      have SX_6a := hid (SX_6.out.on (ball w6 (.cells (#[.int .u64 y.sq, .int .i64 y.kd, .int .u64 y.id, .int .u64 y.ot, .int .u64 y.tg, .int .u32 y.me, .int .i64 y.si, .int .i64 y.ty, .int .i64 y.pr, .int .u64 y.qt, .int .u64 y.pe, .int .i64 y.re, .int .i64 y.co]) 30)))
      have SY_6a := hid (SY_6.out.on (ball w6 (.cells (#[.int .u64 y.sq, .int .i64 y.kd, .int .u64 y.id, .int .u64 y.ot, .int .u64 y.tg, .int .u32 y.me, .int .i64 y.si, .int .i64 y.ty, .int .i64 y.pr, .int .u64 y.qt, .int .u64 y.pe, .int .i64 y.re, .int .i64 y.co]) 30)))
      have RC_6a := hid (heap_alloc_new w6 (.cells (#[.int .u64 y.sq, .int .i64 y.kd, .int .u64 y.id, .int .u64 y.ot, .int .u64 y.tg, .int .u32 y.me, .int .i64 y.si, .int .i64 y.ty, .int .i64 y.pr, .int .u64 y.qt, .int .u64 y.pe, .int .i64 y.re, .int .i64 y.co]) 30))
      have HB_6a := hid (btr HB_6.out (ball w6 (.cells (#[.int .u64 y.sq, .int .i64 y.kd, .int .u64 y.id, .int .u64 y.ot, .int .u64 y.tg, .int .u32 y.me, .int .i64 y.si, .int .i64 y.ty, .int .i64 y.pr, .int .u64 y.qt, .int .u64 y.pe, .int .i64 y.re, .int .i64 y.co]) 30)))
      clear RX_6 RY_6 RF_6 RG_6 SX_6 SY_6 HB_6
      refine hid ?_
      go_wp2_with (first | (go_at_call 19; refine (RY.out q5 c5 _ hc5 hm5 SY_6a.out (HM.out.on HB_6a.out)).mono ?_; rintro e w7 ⟨rfl, hb⟩; have RX_7 := hid (row_on RX_6a.out hb); have RY_7 := hid (row_on RY_6a.out hb); have RF_7 := hid (row_on RF_6a.out hb); have RG_7 := hid (row_on RG_6a.out hb); have RC_7 := hid (row_on RC_6a.out hb); have SX_7 := hid (SX_6a.out.on hb); have SY_7 := hid (SY_6a.out.on hb); have HB_7 := hid (btr HB_6a.out hb); clear hb; refine Hid.out ?_))
      clear RX_6a RY_6a RF_6a RG_6a RC_6a SX_6a SY_6a HB_6a
      have RX_7a := hid (row_on RX_7.out (ball w7 (.cells (#[.int .u64 y.sq, .int .i64 y.kd, .int .u64 y.id, .int .u64 y.ot, .int .u64 y.tg, .int .u32 y.me, .int .i64 y.si, .int .i64 y.ty, .int .i64 y.pr, .int .u64 y.qt, .int .u64 y.pe, .int .i64 y.re, .int .i64 y.co]) 30)))
      have RY_7a := hid (row_on RY_7.out (ball w7 (.cells (#[.int .u64 y.sq, .int .i64 y.kd, .int .u64 y.id, .int .u64 y.ot, .int .u64 y.tg, .int .u32 y.me, .int .i64 y.si, .int .i64 y.ty, .int .i64 y.pr, .int .u64 y.qt, .int .u64 y.pe, .int .i64 y.re, .int .i64 y.co]) 30)))
      have RF_7a := hid (row_on RF_7.out (ball w7 (.cells (#[.int .u64 y.sq, .int .i64 y.kd, .int .u64 y.id, .int .u64 y.ot, .int .u64 y.tg, .int .u32 y.me, .int .i64 y.si, .int .i64 y.ty, .int .i64 y.pr, .int .u64 y.qt, .int .u64 y.pe, .int .i64 y.re, .int .i64 y.co]) 30)))
      have RG_7a := hid (row_on RG_7.out (ball w7 (.cells (#[.int .u64 y.sq, .int .i64 y.kd, .int .u64 y.id, .int .u64 y.ot, .int .u64 y.tg, .int .u32 y.me, .int .i64 y.si, .int .i64 y.ty, .int .i64 y.pr, .int .u64 y.qt, .int .u64 y.pe, .int .i64 y.re, .int .i64 y.co]) 30)))
      have RC_7a := hid (row_on RC_7.out (ball w7 (.cells (#[.int .u64 y.sq, .int .i64 y.kd, .int .u64 y.id, .int .u64 y.ot, .int .u64 y.tg, .int .u32 y.me, .int .i64 y.si, .int .i64 y.ty, .int .i64 y.pr, .int .u64 y.qt, .int .u64 y.pe, .int .i64 y.re, .int .i64 y.co]) 30)))
      have SX_7a := hid (SX_7.out.on (ball w7 (.cells (#[.int .u64 y.sq, .int .i64 y.kd, .int .u64 y.id, .int .u64 y.ot, .int .u64 y.tg, .int .u32 y.me, .int .i64 y.si, .int .i64 y.ty, .int .i64 y.pr, .int .u64 y.qt, .int .u64 y.pe, .int .i64 y.re, .int .i64 y.co]) 30)))
      have SY_7a := hid (SY_7.out.on (ball w7 (.cells (#[.int .u64 y.sq, .int .i64 y.kd, .int .u64 y.id, .int .u64 y.ot, .int .u64 y.tg, .int .u32 y.me, .int .i64 y.si, .int .i64 y.ty, .int .i64 y.pr, .int .u64 y.qt, .int .u64 y.pe, .int .i64 y.re, .int .i64 y.co]) 30)))
      have RD_7a := hid (heap_alloc_new w7 (.cells (#[.int .u64 y.sq, .int .i64 y.kd, .int .u64 y.id, .int .u64 y.ot, .int .u64 y.tg, .int .u32 y.me, .int .i64 y.si, .int .i64 y.ty, .int .i64 y.pr, .int .u64 y.qt, .int .u64 y.pe, .int .i64 y.re, .int .i64 y.co]) 30))
      have HB_7a := hid (btr HB_7.out (ball w7 (.cells (#[.int .u64 y.sq, .int .i64 y.kd, .int .u64 y.id, .int .u64 y.ot, .int .u64 y.tg, .int .u32 y.me, .int .i64 y.si, .int .i64 y.ty, .int .i64 y.pr, .int .u64 y.qt, .int .u64 y.pe, .int .i64 y.re, .int .i64 y.co]) 30)))
      clear RX_7 RY_7 RF_7 RG_7 RC_7 SX_7 SY_7 HB_7
      obtain ⟨e18_0, e18_1, e18_2, e18_3, e18_4, e18_5, e18_6, e18_7, e18_8, e18_9, e18_10, e18_11, e18_12⟩ := cells_E RC_7a.out
      obtain ⟨e19_0, e19_1, e19_2, e19_3, e19_4, e19_5, e19_6, e19_7, e19_8, e19_9, e19_10, e19_11, e19_12⟩ := cells_E RY_7a.out
      obtain ⟨e20_0, e20_1, e20_2, e20_3, e20_4, e20_5, e20_6, e20_7, e20_8, e20_9, e20_10, e20_11, e20_12⟩ := cells_E RD_7a.out
      refine hid ?_
      go_wp2
      go_ret
      exact ⟨by simp, HB_7a.out⟩
    · have g0f : (G == 0) = false := by simpa using g0
      clear g0 UQ RY
      clear BY DY
      refine hid ?_
      go_wp2
      go_ret
      exact ⟨by simp, HB_5.out⟩
end Go.Proofs.YtacdjioieclggaaDoor.Msg
