/-
  All and Back, gone through: what they give, for whatever is done in a round.
-/
import Derived.Test.YtcbfgodknonefaaDoorBnG
namespace Go.Proofs.YtcbfgodknonefaaDoor
open Go.RowKit Go.Deep Bt
set_option linter.unusedVariables false
set_option maxRecDepth 100000
set_option maxHeartbeats 2000000
attribute [local go_sem] Oper.semAt_some

theorem wpListIn_load_rowW {n : Nat} {ops : Array Oper} {rest : List Oper} {o : Oper} {a : Act} {w : World} {Q : Exit → Act → World → Prop} (hgd : o.guard = none) (ty : TypeId) (x : Operand) (ho : o.op = .load ty x)
    (g : Nat) (hx : a.eval x = .pointer (some ⟨g, 0, none⟩)) (cs : Array Value) (hl : (loadVar ty ⟨g, 0, none⟩).run Tryd.prog w = .ok (.agg cs) w)
    (h : wpListIn Fence.wide n Tryd.prog ops Q rest (a.put o.dst (.agg cs)) w) : wpListIn Fence.wide n Tryd.prog ops Q (o :: rest) a w := by
  refine wpListIn_plain hgd fun K hK => ⟨fun _ _ => trivial, ?_⟩
  show Oper.uponIn Fence.wide n Tryd.prog o a K Q ((execOp a.eval o).run Tryd.prog w)
  unfold execOp
  simp only [ho, hx, Instr.loadAt, Instr.sureAddr, Sem.run_bind, Sem.run_pure, Result.andThen_ok, hl]
  exact hK _ _ h
theorem wpListIn_store_rowW {n : Nat} {ops : Array Oper} {rest : List Oper} {o : Oper} {a : Act} {w : World} {Q : Exit → Act → World → Prop} (hgd : o.guard = none) (ty : TypeId) (x y : Operand) (ho : o.op = .store ty x y)
    (g : Nat) (cells : Array Value) (hx : a.eval x = .pointer (some ⟨g, 0, none⟩)) (hy : a.eval y = .agg cells)
    (t : TypeId) (old : Array Value) (hg : w.heap[g]? = some (.cells old t (0, 0))) (hi : (Tryd.prog.info? ty).map (·.size) = some cells.size)
    (hold : old.size = cells.size) (h1 : cells.all (·.oneCell') = true)
    (h : wpListIn Fence.wide n Tryd.prog ops Q rest (a.put o.dst undef) (w.setRow g cells)) : wpListIn Fence.wide n Tryd.prog ops Q (o :: rest) a w := by
  refine wpListIn_plain hgd fun K hK => ⟨fun _ _ => trivial, ?_⟩
  show Oper.uponIn Fence.wide n Tryd.prog o a K Q ((execOp a.eval o).run Tryd.prog w)
  unfold execOp
  simp only [ho, hx, hy, Instr.storeAt, Instr.sureAddr, Sem.run_bind, Sem.run_pure, Result.andThen_ok, run_storeVar_row w g t ty old cells hg hi hold h1]
  exact hK _ _ h
theorem row_one {row : Array Value} {S : Nat → Bool} (h2 : row.size = 4161) (h3 : ∀ i, i < 4161 → row[i]? = some (.int .u64 (cellv S i : Nat))) : row.all (·.oneCell') = true := by
  rw [Array.all_eq_true]
  intro i hi
  have := h3 i (by omega)
  rw [Array.getElem?_eq_getElem hi] at this
  rw [Option.some.inj this]
  rfl
theorem size28 : (Tryd.prog.info? 28).map (·.size) = some 4161 := by kernel_rfl
/-- ticks that are none are passed over. -/
theorem passT {J : Nat → World → Prop} {S : Nat → Bool} {W : World} (hs : ∀ i W, i < 262144 → S i = false → J i W → J (i + 1) W) (a d : Nat) (hd : a + d ≤ 262144) (hz : ∀ i, a ≤ i → i < a + d → S i = false) (h : J a W) : J (a + d) W := by
  induction d with
  | zero => exact h
  | succ d ih =>
    have := ih (by omega) (fun i h1 h2 => hz i h1 (by omega))
    exact hs (a + d) W (by omega) (hz _ (by omega) (by omega)) this
theorem passT_to {J : Nat → World → Prop} {S : Nat → Bool} {W : World} (hs : ∀ i W, i < 262144 → S i = false → J i W → J (i + 1) W) (a c : Nat) (hac : a ≤ c) (hc : c ≤ 262144) (hz : ∀ i, a ≤ i → i < c → S i = false) (h : J a W) : J c W := by
  have := passT hs a (c - a) (by omega) (fun i h1 h2 => hz i h1 (by omega)) h
  rwa [show a + (c - a) = c by omega] at this
/-- what lies from a place on stays. -/
def Ab (B : Nat) (W W' : World) : Prop := ∀ k o, B ≤ k → W.heap[k]? = some o → W'.heap[k]? = some o

def lfT (tv : Value) : Value → Nat
  | .bool true => 262145 - (intOf tv).toNat
  | _ => 0
theorem all1_in (n : Nat) (hn : 1 ≤ n) (b C B : Nat) (S : Nat → Bool) (l : Nat) (J : Nat → World → Prop) (Jx : World → Prop)
    (hJ : ∀ i W, J i W → Laid W) (hg : ∀ i W W', J i W → Below W.heap.size W W' → J i W')
    (hs : ∀ i W, i < 262144 → S i = false → J i W → J (i + 1) W)
    (hY : ∀ i W, i < 262144 → S i = true → J i W → YieldAt Fence.wide (n - 1) Tryd.prog l #[.int .i64 i] W fun e W' => (e = .returned (.bool true) ∧ J (i + 1) W' ∧ Ab B W W') ∨ (e = .returned (.bool false) ∧ Jx W'))
    (W : World) (hB : Bm W b S) (hC : W.cell? ⟨C, 0, none⟩ = some (.pointer (some ⟨b, 0, none⟩))) (hBW : B ≤ W.heap.size) (h0 : J 0 W) :
    CallsIn Fence.wide n Tryd.prog 55 #[.func (.yield l) #[] #[], .pointer (some ⟨C, 0, none⟩)] W fun e W' => (∃ v, e = .returned v) ∧ (J 262144 W' ∨ Jx W') := by
  have HJ := hid hJ
  have HS := hid hs
  have HY := hid hY
  obtain ⟨row, r1, r2, r3⟩ := hB
  have R1 := hid (row_one r2 r3)
  have I1 := hid (show (Tryd.prog.info? 28).map (·.size) = some row.size by rw [r2]; exact size28)
  have Z1 := hid (show zrow.size = row.size by rw [r2]; exact Array.size_replicate)
  have al : (W.alloc (.cells zrow 28)).heap[W.heap.size]? = some (.cells zrow 28 (0, 0)) := World.alloc_heap_new _ _
  have W1 : ((W.alloc (.cells zrow 28)).setRow W.heap.size row).heap[W.heap.size]? = some (.cells row 28 (0, 0)) := setRow_heap _ _ _ _ _ _ al
  have HQ := hid (show Bm ((W.alloc (.cells zrow 28)).setRow W.heap.size row) W.heap.size S from ⟨row, W1, r2, r3⟩)
  have W2 : ∀ j, j < W.heap.size → ((W.alloc (.cells zrow 28)).setRow W.heap.size row).heap[j]? = W.heap[j]? := fun j hj => by
    rw [setRow_other _ _ _ _ (by omega), Below.heap_alloc _ _ _ hj]
  have B4 : Below W.heap.size W ((W.alloc (.cells zrow 28)).setRow W.heap.size row) := ⟨rfl, rfl, rfl, by simp, W2⟩
  have HJ1 := hid (hg 0 W _ h0 B4)
  have AL := hid al
  have RR := hid r1
  have hz := run_zero28
  clear hJ hs hY hg r1 r2 r3 al W1 W2 B4
  refine callsIn_of_wp Tryd.func55 rfl trivial ?_ rfl
  simp only [Tryd.ntmps55, List.size_toArray, List.length_cons, List.length_nil, Nat.reduceAdd, Nat.reduceSub, Array.replicate_succ, Array.replicate_zero, List.push_toArray, List.append_toArray, List.nil_append, List.cons_append]
  obtain ⟨r0, hr0⟩ := abv_ex S 0
  have C0 := hid (above_at W.heap.size S 0 r0 hr0 _ HQ.out (HJ.out _ _ HJ1.out))
  gi_wp2_with (first
    | (refine wpListIn_load_rowW (by rfl) 28 (.tmp 7) (by rfl) b (by rfl) row (run_loadVar_row W b 28 28 row (0, 0) _ RR.out Tryd.underlying28 rfl I1.out) ?_)
    | (refine wpListIn_store_rowW (by rfl) 28 (.tmp 3) (.tmp 8) (by rfl) W.heap.size row (by rfl) (by rfl) 28 zrow AL.out I1.out Z1.out R1.out ?_)
    | (refine ⟨trivial, ?_⟩; gi_at_call 24; refine (callsIn_wide.2 C0.out).mono ?_; rintro e w' ⟨rfl, rfl⟩))
  obtain ⟨Q, hQ⟩ : ∃ Q, W.heap.size = Q := ⟨_, rfl⟩
  rw [hQ] at HQ HJ1 hBW ⊢
  obtain ⟨W1, hW1⟩ : ∃ W1, (W.alloc (.cells zrow 28)).setRow Q row = W1 := ⟨_, rfl⟩
  rw [hW1] at HQ HJ1 ⊢
  have HR0 := hid hr0
  clear hW1 hQ C0 AL RR R1 I1 Z1 hz hr0 hC
  gi_loopw [4, 5] (fun tv ov wr => ∃ (r : Option Nat) (j : Nat), j ≤ 262144 ∧ tv = .int .i64 ((r.getD 0 : Nat) : Int) ∧ ov = .bool r.isSome ∧ Hid (Abv S (j : Int) r) ∧ Hid (J j wr) ∧ Hid (Bm wr Q S)) (fun tv ov _ => lfT tv ov)
  case atStart => exact ⟨r0, 0, by omega, rfl, rfl, HR0, HJ1, HQ⟩
  case round =>
    clear HJ1 HQ HR0
    obtain ⟨r, j, hj, rfl, rfl, HA, HJ2, HQ2⟩ := hrel
    cases r with
    | none =>
      have HE := hid (show J 262144 wr from passT_to HS.out j 262144 hj (Nat.le_refl _) (fun i h1 h2 => HA.out i (by omega) h2) HJ2.out)
      simp only [Option.getD_none, Option.isSome_none]
      gi_wp2
      refine ⟨fun _ h => (by cases h), ?_⟩
      gi_wp2
      go_end0
      exact ⟨⟨_, rfl⟩, Or.inl HE.out⟩
    | some u =>
      obtain ⟨a1, a2, a3, a4⟩ := HA.out
      have HE := hid (show J u wr from passT_to HS.out j u (by omega) (by omega) (fun i h1 h2 => a4 i (by omega) h2) HJ2.out)
      obtain ⟨fn, tmps, assign, body, hy, hR⟩ := HY.out u wr a1 a2 HE.out
      have HRR := hid hR
      have a5 : (u : Int) < 262144 := by omega
      simp only [Option.getD_some, Option.isSome_some]
      clear hR a2 a3 a4 HA HJ2
      gi_wp2
      refine HRR.out.mono ?_
      rintro e W3 (⟨rfl, hJ3, hab⟩ | ⟨rfl, hJx3⟩)
      · have HJ3 := hid hJ3
        have HQ3 := hid (show Bm W3 Q S from HQ2.out.same (by
          obtain ⟨row, q1, _⟩ := HQ2.out
          rw [q1]; exact hab Q _ hBW q1))
        obtain ⟨r', hr'⟩ := abv_ex S ((u : Int) + 1)
        have C3 := hid (above_at Q S ((u : Int) + 1) r' hr' _ HQ3.out (HJ.out _ _ HJ3.out))
        have HR' := hid (show Abv S ((u + 1 : Nat) : Int) r' by rw [show ((u + 1 : Nat) : Int) = (u : Int) + 1 by omega]; exact hr')
        have M1 := hid (show lfT (.int .i64 ((r'.getD 0 : Nat) : Int)) (.bool r'.isSome) < 262145 - u by
          cases r' with
          | none => simp [lfT]; omega
          | some u' =>
            have := hr'.2.2.1
            have := hr'.1
            simp [lfT, intOf]
            omega)
        clear hJ3 hab hr'
        gi_wp2_with (first | (refine ⟨trivial, ?_⟩; gi_at_call 24; refine (callsIn_wide.2 C3.out).mono ?_; rintro e w' ⟨rfl, rfl⟩))
        go_roundw
        case rel => exact ⟨r', u + 1, by omega, rfl, rfl, HR', HJ3, HQ3⟩
        case measure => have := M1.out; simpa [lfT, intOf] using this
      · gi_wp2
        go_end0
        exact ⟨⟨_, rfl⟩, Or.inr hJx3⟩
end Go.Proofs.YtcbfgodknonefaaDoor
