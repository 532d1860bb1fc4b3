/-
  Sort: some order of the same numbers.
-/
import Derived.Test.YtphhllppgelceaaSrK
namespace Go.Proofs.Ytphhllppgelceaa.Sr
open Go.RowKit Go.Deep
set_option linter.unusedVariables false
set_option linter.unusedSimpArgs false
set_option maxHeartbeats 8000000
set_option maxRecDepth 100000
theorem bl_le64 (n : Nat) (h : n ≤ 1152921504606846976) : Lib.bitLen n ≤ 64 := by
  by_cases h0 : n = 0
  · subst h0; decide
  · have := bl_bounds 64 n (by omega) h0
    change 1 ≤ Lib.bitLen n ∧ 2 ^ (Lib.bitLen n - 1) ≤ n ∧ n < 2 ^ Lib.bitLen n at this
    rcases Nat.lt_or_ge 64 (Lib.bitLen n) with hh | hh
    · have h3 := Nat.pow_le_pow_right (n := 2) (by omega) (show 64 ≤ Lib.bitLen n - 1 by omega)
      have h4 := this.2.1
      have : (2 : Nat) ^ 64 = 18446744073709551616 := by decide
      omega
    · exact hh
theorem sort_any (g cap n : Nat) (l : List Int) (w : World) (h : Uz w g n l) (hn : n ≤ 1152921504606846976) :
    Calls Try.prog 24 #[.slice (some ⟨g, 0, none⟩) n cap] w fun e w' => e = .returned (.tuple #[]) ∧ Sz w w' g n l := by
  have hL := hid (Try.bits_Len (n : Int) w (by omega) (by omega))
  have wn : IntKind.u64.wrap (n : Int) = (n : Int) := by rw [IntKind.wrap_u64]; omega
  obtain ⟨k, hk⟩ : ∃ k, Lib.bitLen (n : Int).toNat = k := ⟨_, rfl⟩
  have k64 : k ≤ 64 := by
    have e : (n : Int).toNat = n := by omega
    rw [← hk, e]
    exact bl_le64 n hn
  rw [hk] at hL
  have CP := hid (show Calls Try.prog 39 #[.slice (some ⟨g, 0, none⟩) n cap, .int .i64 0, .int .i64 n, .int .i64 k] w fun e w' => e = .returned (.tuple #[]) ∧ Hid (Sz w w' g n l) from (pdq_any g cap n hn n l 0 n k w (by omega) h (by omega) (Nat.le_refl _) (by omega) (by omega)))
  clear h hk
  go_enter Try.func24, Try.ntmps24
  go_wp2_with (first | (go_at_call 40; with_reducible refine (hL.out).mono ?_; rintro e w9 ⟨rfl, h9⟩; subst w9) | (go_at_call 39; with_reducible refine (CP.out).mono ?_; rintro e v1 ⟨rfl, HS⟩))
  go_end0
  exact ⟨rfl, HS.out⟩
end Go.Proofs.Ytphhllppgelceaa.Sr
namespace Go.Proofs.Ytphhllppgelceaa.Sr
open Go.RowKit Go.Deep
set_option linter.unusedVariables false
set_option linter.unusedSimpArgs false
set_option maxHeartbeats 8000000
set_option maxRecDepth 100000
theorem own_same {base : Nat} {w w' : World} {e : TypeId} {size n : Nat} {v : Value} {xs : List Value} (h : w.ownsRow base e size v n xs) (hs : ∀ g, v.ownBlock = some g → w'.heap[g]? = w.heap[g]?) : w'.ownsRow base e size v n xs := by
  obtain ⟨h1, h2 | ⟨g, c, cur, h2, r1, r2, r⟩⟩ := h
  · exact ⟨h1, .inl h2⟩
  · exact ⟨h1, .inr ⟨g, c, cur, h2, r1, (hs g (by rw [h2]; rfl)).trans r2, r⟩⟩
theorem own_on {base : Nat} {w w' : World} {e : TypeId} {size n : Nat} {v : Value} {xs : List Value} (h : w.ownsRow base e size v n xs) (hb : Below w.heap.size w w') : w'.ownsRow base e size v n xs := by
  have h' := h
  obtain ⟨h1, h2 | ⟨g, c, cur, h2, r1, r2, r⟩⟩ := h
  · exact ⟨h1, .inl h2⟩
  · exact own_same h' (fun g' hg' => by rw [h2] at hg'; cases hg'; exact hb.block g (row_lt r2))
theorem ins0 (p : Option Addr) (c : Nat) (w : World) : Calls Try.prog 50 #[.slice p 0 c, .int .i64 0, .int .i64 0] w fun e w' => e = .returned (.tuple #[]) ∧ w' = w := by
  go_enter Try.func50, Try.ntmps50
  go_upto_region 1 with fail
  go_loopw [6] (fun iv wr => iv = .int .i64 1 ∧ w = wr) (fun iv _ => 1)
  case atStart => exact ⟨rfl, rfl⟩
  case round =>
    obtain ⟨rfl, rfl⟩ := hrel
    go_wp2
    go_end0
    exact ⟨rfl, rfl⟩
theorem pdq0 (p : Option Addr) (c : Nat) (lim : Int) (w : World) : Calls Try.prog 39 #[.slice p 0 c, .int .i64 0, .int .i64 0, .int .i64 lim] w fun e w' => e = .returned (.tuple #[]) ∧ w' = w := by
  have CI := hid (ins0 p c w)
  go_enter Try.func39, Try.ntmps39
  go_upto_region 2 with fail
  go_loopw [1, 2] (fun av bv wr => av = .int .i64 0 ∧ bv = .int .i64 0 ∧ w = wr) (fun _ _ _ => 1)
  case atStart => exact ⟨rfl, rfl, rfl⟩
  case round =>
    obtain ⟨rfl, rfl, rfl⟩ := hrel
    go_wp2_with (go_at_call 50; with_reducible refine (CI.out).mono ?_; rintro e v1 ⟨rfl, hv⟩; subst hv)
    try simp only [Exit.inBlock, Exit.then]
    refine bodyPost_ret (results_none rfl _ _ _) rfl ?_
    exact ⟨rfl, rfl⟩
theorem sort0 (p : Option Addr) (c : Nat) (w : World) : Calls Try.prog 24 #[.slice p 0 c] w fun e w' => e = .returned (.tuple #[]) ∧ w' = w := by
  have hL := hid (Try.bits_Len 0 w (by omega) (by omega))
  obtain ⟨k, hk⟩ : ∃ k, Lib.bitLen (0 : Int).toNat = k := ⟨_, rfl⟩
  rw [hk] at hL
  have CP := hid (pdq0 p c k w)
  clear hk
  go_enter Try.func24, Try.ntmps24
  go_wp2_with (first | (go_at_call 40; with_reducible refine (hL.out).mono ?_; rintro e w9 ⟨rfl, h9⟩; subst w9) | (go_at_call 39; with_reducible refine (CP.out).mono ?_; rintro e v1 ⟨rfl, hv⟩; subst hv))
  go_end0
  exact ⟨rfl, rfl⟩
def ivs (l : List Int) : List Value := l.map fun x => .int .u32 x
theorem own_uz {base : Nat} {w : World} {p : Option Addr} {k c : Nat} {l : List Int} (hk : l.length = k) (h0 : 0 < k) (h : w.ownsRow base 22 1 (.slice p k c) k (ivs l)) : ∃ g, p = some ⟨g, 0, none⟩ ∧ base ≤ g ∧ Uz w g k l := by
  obtain ⟨h1, ⟨e1, e2⟩ | ⟨g, c', cur, e1, r1, r2, r3, r4, r5, r6⟩⟩ := h
  · omega
  · refine ⟨g, (Value.slice.inj e1).1, r1, hk, cur, r2, by omega, fun i hi => ?_⟩
    have := congrArg (fun z => z[i]?) r6
    simp only [List.getElem?_take, Array.getElem?_toList] at this
    rw [if_pos (by omega)] at this
    rw [this]
    unfold ivs gd
    rw [List.getElem?_map, List.getD_eq_getElem?_getD, List.getElem?_eq_getElem (by omega)]
    rfl
theorem infoU : (Try.prog.info? 22).map (fun i => (i.zero, i.size, i.bytes)) = some (some (.int .u32 0), 1, 4) := by kernel_rfl
theorem app_one {w : World} {ops : Array Oper} {rest : List Oper} {oo : Oper} {a : Act} {Q : Exit → Act → World → Prop} (hgd : oo.guard = none) (s x : Operand)
    (ho : oo.op = .call { callee := .builtin .append, args := #[s, x], argTypes := #[25, 25] })
    (base : Nat) (v : Value) (n : Nat) (ys : List Value) (hs : a.eval s = v) (hown : w.ownsRow base 22 1 v n ys)
    (g : Nat) (y : Int) (hx : a.eval x = .slice (some ⟨g, 0, none⟩) 1 1) (hg : w.cell? ⟨g, 0, none⟩ = some (.int .u32 y))
    (hn : n ≤ 1000000000000) (hbase : base ≤ w.heap.size)
    (h : ∀ v' w', w'.ownsRow base 22 1 v' (n + 1) (ys ++ [.int .u32 y]) → w.grownBy w' v.ownBlock → wpList Try.prog ops Q rest (a.put oo.dst v') w') : wpList Try.prog ops Q (oo :: rest) a w := by
  obtain ⟨i0, hi, hz0, hz1, hz2⟩ : ∃ i0, Try.prog.info? 22 = some i0 ∧ i0.zero = some (.int .u32 0) ∧ i0.size = 1 ∧ i0.bytes = 4 := by
    have := infoU
    cases hh : Try.prog.info? 22 with
    | none => rw [hh] at this; cases this
    | some i => rw [hh] at this; simp at this; exact ⟨i, rfl, this.1, this.2.1, this.2.2⟩
  exact wpList_append_own _ hgd s x 25 ho base 22 i0 _ 1 4 Try.underlying25 hi hz0 hz1 hz2 rfl (by decide) v n ys hs hown ⟨g, 0, none⟩ 1 1 [.int .u32 y] hx rfl (fun j u hj => by
    cases j with
    | zero => simp at hj; subst hj; exact hg
    | succ j => simp at hj) (by intro u hu; simp at hu; subst hu; rfl) (by unfold maxLen; omega) (by omega) hbase (fun v' w' h2 h3 _ => h v' w' h2 h3)
end Go.Proofs.Ytphhllppgelceaa.Sr
