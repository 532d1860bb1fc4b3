/-
  distinct: the walk.
-/
import Derived.Test.YtjpkodllemoniaaDoorStM
namespace Go.Proofs.YtjpkodllemoniaaDoor.Sr
open Go.RowKit Go.Deep
set_option linter.unusedVariables false
set_option linter.unusedSimpArgs false
set_option maxHeartbeats 8000000
set_option maxRecDepth 100000
theorem own_same {base : Nat} {w w' : World} {e : TypeId} {size n : Nat} {v : Value} {xs : List Value} (h : w.ownsRow base e size v n xs) (hs : ∀ g, v.ownBlock = some g → w'.heap[g]? = w.heap[g]?) : w'.ownsRow base e size v n xs := by
  obtain ⟨h1, h2 | ⟨g, c, cur, h2, r1, r2, r⟩⟩ := h
  · exact ⟨h1, .inl h2⟩
  · exact ⟨h1, .inr ⟨g, c, cur, h2, r1, (hs g (by rw [h2]; rfl)).trans r2, r⟩⟩
theorem own_on {base : Nat} {w w' : World} {e : TypeId} {size n : Nat} {v : Value} {xs : List Value} (h : w.ownsRow base e size v n xs) (hb : Below w.heap.size w w') : w'.ownsRow base e size v n xs := by
  have h' := h
  obtain ⟨h1, h2 | ⟨g, c, cur, h2, r1, r2, r⟩⟩ := h
  · exact ⟨h1, .inl h2⟩
  · exact own_same h' (fun g' hg' => by rw [h2] at hg'; cases hg'; exact hb.block g (row_lt r2))
theorem ins0 (p : Option Addr) (c : Nat) (w : World) : Calls Tryd.prog 57 #[.slice p 0 c, .int .i64 0, .int .i64 0] w fun e w' => e = .returned (.tuple #[]) ∧ w' = w := by
  go_enter Tryd.func57, Tryd.ntmps57
  go_upto_region 1 with fail
  go_loopw [6] (fun iv wr => iv = .int .i64 1 ∧ w = wr) (fun iv _ => 1)
  case atStart => exact ⟨rfl, rfl⟩
  case round =>
    obtain ⟨rfl, rfl⟩ := hrel
    go_wp2
    go_end0
    exact ⟨rfl, rfl⟩
theorem pdq0 (p : Option Addr) (c : Nat) (lim : Int) (w : World) : Calls Tryd.prog 55 #[.slice p 0 c, .int .i64 0, .int .i64 0, .int .i64 lim] w fun e w' => e = .returned (.tuple #[]) ∧ w' = w := by
  have CI := hid (ins0 p c w)
  go_enter Tryd.func55, Tryd.ntmps55
  go_upto_region 2 with fail
  go_loopw [1, 2] (fun av bv wr => av = .int .i64 0 ∧ bv = .int .i64 0 ∧ w = wr) (fun _ _ _ => 1)
  case atStart => exact ⟨rfl, rfl, rfl⟩
  case round =>
    obtain ⟨rfl, rfl, rfl⟩ := hrel
    go_wp2_with (go_at_call 57; with_reducible refine (CI.out).mono ?_; rintro e v1 ⟨rfl, hv⟩; subst hv)
    try simp only [Exit.inBlock, Exit.then]
    refine bodyPost_ret (results_none rfl _ _ _) rfl ?_
    exact ⟨rfl, rfl⟩
theorem sort0 (p : Option Addr) (c : Nat) (w : World) : Calls Tryd.prog 51 #[.slice p 0 c] w fun e w' => e = .returned (.tuple #[]) ∧ w' = w := by
  have hL := hid (Tryd.bits_Len 0 w (by omega) (by omega))
  obtain ⟨k, hk⟩ : ∃ k, Lib.bitLen (0 : Int).toNat = k := ⟨_, rfl⟩
  rw [hk] at hL
  have CP := hid (pdq0 p c k w)
  clear hk
  go_enter Tryd.func51, Tryd.ntmps51
  go_wp2_with (first | (go_at_call 56; with_reducible refine (hL.out).mono ?_; rintro e w9 ⟨rfl, h9⟩; subst w9) | (go_at_call 55; with_reducible refine (CP.out).mono ?_; rintro e v1 ⟨rfl, hv⟩; subst hv))
  go_end0
  exact ⟨rfl, rfl⟩
theorem compact0 (p : Option Addr) (c : Nat) (w : World) : Calls Tryd.prog 52 #[.slice p 0 c] w fun e w' => e = .returned (.slice p 0 c) ∧ w' = w := by
  go_enter Tryd.func52, Tryd.ntmps52
  go_wp2
  go_ret
  exact ⟨rfl, rfl⟩
/-- IDs as cells. -/
def ivs (l : List Int) : List Value := l.map (Value.int .u64)
theorem own_uz {base : Nat} {w : World} {p : Option Addr} {k c : Nat} {l : List Int} (hk : l.length = k) (h0 : 0 < k) (h : w.ownsRow base 25 1 (.slice p k c) k (ivs l)) : ∃ g, p = some ⟨g, 0, none⟩ ∧ base ≤ g ∧ Uz w g k l := by
  obtain ⟨h1, ⟨e1, e2⟩ | ⟨g, c', cur, e1, r1, r2, r3, r4, r5, r6⟩⟩ := h
  · omega
  · refine ⟨g, (Value.slice.inj e1).1, r1, hk, cur, r2, by omega, fun i hi => ?_⟩
    have := congrArg (fun z => z[i]?) r6
    simp only [List.getElem?_take, Array.getElem?_toList] at this
    rw [if_pos (by omega)] at this
    rw [this]
    unfold ivs gd
    rw [List.getElem?_map, List.getD_eq_getElem?_getD, List.getElem?_eq_getElem (by omega)]
    rfl
theorem own_cap {base : Nat} {w : World} {g k c : Nat} {l : List Int} (h : w.ownsRow base 25 1 (.slice (some ⟨g, 0, none⟩) k c) k (ivs l)) : k ≤ c := by
  obtain ⟨h1, ⟨e1, e2⟩ | ⟨g', c', cur, e1, r1, r2, r3, r4, r5, r6⟩⟩ := h
  · cases (Value.slice.inj e1).1
  · have := (Value.slice.inj e1).2.2
    omega
/-- Sort, then Compact: as many stay only where all differ. -/
theorem sorted_compact2 {base : Nat} {w : World} {p : Option Addr} {k c : Nat} {l : List Int} (hk : l.length = k) (hn : k ≤ 8192) (h : w.ownsRow base 25 1 (.slice p k c) k (ivs l)) (hb : ∀ g, p = some ⟨g, 0, none⟩ → base ≤ g) :
    Calls Tryd.prog 51 #[.slice p k c] w fun e w' => e = .returned (.tuple #[]) ∧ Hid (Below base w w' ∧ Calls Tryd.prog 52 #[.slice p k c] w' fun e w'' => ∃ kk cc : Nat, e = .returned (.slice p kk cc) ∧ Hid (((kk : Int) == (k : Int)) = decide l.Nodup) ∧ Hid (Below base w w'')) := by
  by_cases h0 : k = 0
  · subst h0
    refine (sort0 p c w).mono ?_
    rintro e w' ⟨rfl, rfl⟩
    have hl0 : l = [] := List.eq_nil_of_length_eq_zero hk
    exact ⟨rfl, hid ⟨Below.refl _ _, (compact0 p c w').mono (fun e w'' hh => ⟨0, c, hh.1, hid (by subst hl0; simp), hid (by rw [hh.2]; exact Below.refl _ _)⟩)⟩⟩
  · obtain ⟨g, rfl, hg, hu⟩ := own_uz hk (by omega) h
    have hcap := own_cap h
    refine (sort_so g c k l w hu (by omega)).mono ?_
    rintro e w' ⟨rfl, l', ⟨p1, ps⟩, u1, k1⟩
    have hsz : base ≤ w.heap.size := by obtain ⟨cur, e, _⟩ := hu.row; exact Nat.le_trans hg (Nat.le_of_lt (row_lt e))
    have hB : Below base w w' := k1.below hsz (fun j hj e => by omega)
    refine ⟨rfl, hid ⟨hB, ?_⟩⟩
    by_cases hd : l.Nodup
    · exact (compact_any g c k l' w' u1 (p1.nodup_iff.2 hd) (by omega)).mono (fun e w'' hh => ⟨k, c, hh.1, hid (by simp [hd]), hid (hB.trans (hh.2.mono (Nat.le_trans hsz k1.size)))⟩)
    · obtain ⟨i, a1, a2⟩ := dup_near ps (fun hn => hd (p1.nodup_iff.1 hn))
      exact (compact_dup g c k l' w' u1 hcap ⟨i, by have := u1.len; omega, a2⟩ (by omega)).mono (fun e w'' hh => by
        obtain ⟨kk, cc, e1, e2, e3⟩ := hh
        refine ⟨kk, cc, e1, hid ?_, hid (hB.trans (e3.below (Nat.le_trans hsz k1.size) (fun j hj e => by omega)))⟩
        have : ¬ (kk : Int) = (k : Int) := by omega
        simp [hd]
        omega)
end Go.Proofs.YtjpkodllemoniaaDoor.Sr
