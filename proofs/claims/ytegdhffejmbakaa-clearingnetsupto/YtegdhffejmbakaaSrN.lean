/-
  SrN
-/
import Derived.Test.YtegdhffejmbakaaSrK
namespace Go.Proofs.Ytegdhffejmbakaa.Sr
open Go.RowKit Go.Deep
set_option linter.unusedVariables false
set_option linter.unusedSimpArgs false
set_option maxHeartbeats 8000000
set_option maxRecDepth 100000
theorem own_same {base : Nat} {w w' : World} {e : TypeId} {size n : Nat} {v : Value} {xs : List Value} (h : w.ownsRow base e size v n xs) (hs : ∀ g, v.ownBlock = some g → w'.heap[g]? = w.heap[g]?) : w'.ownsRow base e size v n xs := by
  obtain ⟨h1, h2 | ⟨g, c, cur, h2, r1, r2, r⟩⟩ := h
  · exact ⟨h1, .inl h2⟩
  · exact ⟨h1, .inr ⟨g, c, cur, h2, r1, (hs g (by rw [h2]; rfl)).trans r2, r⟩⟩
theorem own_on {base : Nat} {w w' : World} {e : TypeId} {size n : Nat} {v : Value} {xs : List Value} (h : w.ownsRow base e size v n xs) (hb : Below w.heap.size w w') : w'.ownsRow base e size v n xs := by
  have h' := h
  obtain ⟨h1, h2 | ⟨g, c, cur, h2, r1, r2, r⟩⟩ := h
  · exact ⟨h1, .inl h2⟩
  · exact own_same h' (fun g' hg' => by rw [h2] at hg'; cases hg'; exact hb.block g (row_lt r2))
theorem ins0 (p : Option Addr) (c : Nat) (w : World) : Calls Try.prog 80 #[.slice p 0 c, .int .i64 0, .int .i64 0] w fun e w' => e = .returned (.tuple #[]) ∧ w' = w := by
  go_enter Try.func80, Try.ntmps80
  go_upto_region 1 with fail
  go_loopw [6] (fun iv wr => iv = .int .i64 1 ∧ w = wr) (fun iv _ => 1)
  case atStart => exact ⟨rfl, rfl⟩
  case round =>
    obtain ⟨rfl, rfl⟩ := hrel
    go_wp2
    go_end0
    exact ⟨rfl, rfl⟩
theorem pdq0 (p : Option Addr) (c : Nat) (lim : Int) (w : World) : Calls Try.prog 65 #[.slice p 0 c, .int .i64 0, .int .i64 0, .int .i64 lim] w fun e w' => e = .returned (.tuple #[]) ∧ w' = w := by
  have CI := hid (ins0 p c w)
  go_enter Try.func65, Try.ntmps65
  go_upto_region 2 with fail
  go_loopw [1, 2] (fun av bv wr => av = .int .i64 0 ∧ bv = .int .i64 0 ∧ w = wr) (fun _ _ _ => 1)
  case atStart => exact ⟨rfl, rfl, rfl⟩
  case round =>
    obtain ⟨rfl, rfl, rfl⟩ := hrel
    go_wp2_with (go_at_call 80; with_reducible refine (CI.out).mono ?_; rintro e v1 ⟨rfl, hv⟩; subst hv)
    try simp only [Exit.inBlock, Exit.then]
    refine bodyPost_ret (results_none rfl _ _ _) rfl ?_
    exact ⟨rfl, rfl⟩
theorem sort0 (p : Option Addr) (c : Nat) (w : World) : Calls Try.prog 53 #[.slice p 0 c] w fun e w' => e = .returned (.tuple #[]) ∧ w' = w := by
  have hL := hid (Try.bits_Len 0 w (by omega) (by omega))
  obtain ⟨k, hk⟩ : ∃ k, Lib.bitLen (0 : Int).toNat = k := ⟨_, rfl⟩
  rw [hk] at hL
  have CP := hid (pdq0 p c k w)
  clear hk
  go_enter Try.func53, Try.ntmps53
  go_wp2_with (first | (go_at_call 61; with_reducible refine (hL.out).mono ?_; rintro e w9 ⟨rfl, h9⟩; subst w9) | (go_at_call 65; with_reducible refine (CP.out).mono ?_; rintro e v1 ⟨rfl, hv⟩; subst hv))
  go_end0
  exact ⟨rfl, rfl⟩
def ivs (l : List Int) : List Value := l.map fun x => .int .u32 x
theorem own_uz {base : Nat} {w : World} {p : Option Addr} {k c : Nat} {l : List Int} (hk : l.length = k) (h0 : 0 < k) (h : w.ownsRow base 23 1 (.slice p k c) k (ivs l)) : ∃ g, p = some ⟨g, 0, none⟩ ∧ base ≤ g ∧ Uz w g k l := by
  obtain ⟨h1, ⟨e1, e2⟩ | ⟨g, c', cur, e1, r1, r2, r3, r4, r5, r6⟩⟩ := h
  · omega
  · refine ⟨g, (Value.slice.inj e1).1, r1, hk, cur, r2, by omega, fun i hi => ?_⟩
    have := congrArg (fun z => z[i]?) r6
    simp only [List.getElem?_take, Array.getElem?_toList] at this
    rw [if_pos (by omega)] at this
    rw [this]
    unfold ivs gd
    rw [List.getElem?_map, List.getD_eq_getElem?_getD, List.getElem?_eq_getElem (by omega)]
    rfl
theorem infoU : (Try.prog.info? 23).map (fun i => (i.zero, i.size, i.bytes)) = some (some (.int .u32 0), 1, 4) := by kernel_rfl
end Go.Proofs.Ytegdhffejmbakaa.Sr
