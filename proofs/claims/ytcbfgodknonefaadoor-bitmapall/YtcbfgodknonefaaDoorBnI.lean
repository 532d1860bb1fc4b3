/-
  Back, gone through; a loop over All, over Back.
-/
import Derived.Test.YtcbfgodknonefaaDoorBnH
namespace Go.Proofs.YtcbfgodknonefaaDoor
open Go.RowKit Go.Deep Bt
set_option linter.unusedVariables false
set_option maxRecDepth 100000
set_option maxHeartbeats 2000000
attribute [local go_sem] Oper.semAt_some

def lfB (tv : Value) : Value → Nat
  | .bool true => (intOf tv).toNat + 1
  | _ => 0
theorem passB {J : Nat → World → Prop} {S : Nat → Bool} {W : World} (hs : ∀ i W, i < 262144 → S i = false → J (i + 1) W → J i W) (c d : Nat) (hd : c + d ≤ 262144) (hz : ∀ i, c ≤ i → i < c + d → S i = false) (h : J (c + d) W) : J c W := by
  induction d with
  | zero => exact h
  | succ d ih =>
    exact ih (by omega) (fun i h1 h2 => hz i h1 (by omega)) (hs (c + d) W (by omega) (hz _ (by omega) (by omega)) h)
theorem passB_to {J : Nat → World → Prop} {S : Nat → Bool} {W : World} (hs : ∀ i W, i < 262144 → S i = false → J (i + 1) W → J i W) (a c : Nat) (hac : c ≤ a) (hc : a ≤ 262144) (hz : ∀ i, c ≤ i → i < a → S i = false) (h : J a W) : J c W :=
  passB hs c (a - c) (by omega) (fun i h1 h2 => hz i h1 (by omega)) (by rwa [show c + (a - c) = a by omega])
theorem back1_in (n : Nat) (hn : 1 ≤ n) (b C B : Nat) (S : Nat → Bool) (l : Nat) (J : Nat → World → Prop) (Jx : World → Prop)
    (hJ : ∀ i W, J i W → Laid W) (hg : ∀ i W W', J i W → Below W.heap.size W W' → J i W')
    (hs : ∀ i W, i < 262144 → S i = false → J (i + 1) W → J i W)
    (hY : ∀ i W, i < 262144 → S i = true → J (i + 1) W → YieldAt Fence.wide (n - 1) Tryd.prog l #[.int .i64 i] W fun e W' => (e = .returned (.bool true) ∧ J i W' ∧ Ab B W W') ∨ (e = .returned (.bool false) ∧ Jx W'))
    (W : World) (hB : Bm W b S) (hC : W.cell? ⟨C, 0, none⟩ = some (.pointer (some ⟨b, 0, none⟩))) (hBW : B ≤ W.heap.size) (h0 : J 262144 W) :
    CallsIn Fence.wide n Tryd.prog 56 #[.func (.yield l) #[] #[], .pointer (some ⟨C, 0, none⟩)] W fun e W' => (∃ v, e = .returned v) ∧ (J 0 W' ∨ Jx W') := by
  have HJ := hid hJ
  have HS := hid hs
  have HY := hid hY
  obtain ⟨row, r1, r2, r3⟩ := hB
  have R1 := hid (row_one r2 r3)
  have I1 := hid (show (Tryd.prog.info? 28).map (·.size) = some row.size by rw [r2]; exact size28)
  have Z1 := hid (show zrow.size = row.size by rw [r2]; exact Array.size_replicate)
  have al : (W.alloc (.cells zrow 28)).heap[W.heap.size]? = some (.cells zrow 28 (0, 0)) := World.alloc_heap_new _ _
  have W1 : ((W.alloc (.cells zrow 28)).setRow W.heap.size row).heap[W.heap.size]? = some (.cells row 28 (0, 0)) := setRow_heap _ _ _ _ _ _ al
  have HQ := hid (show Bm ((W.alloc (.cells zrow 28)).setRow W.heap.size row) W.heap.size S from ⟨row, W1, r2, r3⟩)
  have W2 : ∀ j, j < W.heap.size → ((W.alloc (.cells zrow 28)).setRow W.heap.size row).heap[j]? = W.heap[j]? := fun j hj => by
    rw [setRow_other _ _ _ _ (by omega), Below.heap_alloc _ _ _ hj]
  have B4 : Below W.heap.size W ((W.alloc (.cells zrow 28)).setRow W.heap.size row) := ⟨rfl, rfl, rfl, by simp, W2⟩
  have HJ1 := hid (hg 262144 W _ h0 B4)
  have AL := hid al
  have RR := hid r1
  have hz := run_zero28
  clear hJ hs hY hg r1 r2 r3 al W1 W2 B4
  refine callsIn_of_wp Tryd.func56 rfl trivial ?_ rfl
  simp only [Tryd.ntmps56, List.size_toArray, List.length_cons, List.length_nil, Nat.reduceAdd, Nat.reduceSub, Array.replicate_succ, Array.replicate_zero, List.push_toArray, List.append_toArray, List.nil_append, List.cons_append]
  obtain ⟨r0, hr0⟩ := blw_ex S 262143
  have C0 := hid (below_at W.heap.size S 262143 r0 hr0 _ HQ.out)
  gi_wp2_with (first
    | (refine wpListIn_load_rowW (by rfl) 28 (.tmp 7) (by rfl) b (by rfl) row (run_loadVar_row W b 28 28 row (0, 0) _ RR.out Tryd.underlying28 rfl I1.out) ?_)
    | (refine wpListIn_store_rowW (by rfl) 28 (.tmp 3) (.tmp 8) (by rfl) W.heap.size row (by rfl) (by rfl) 28 zrow AL.out I1.out Z1.out R1.out ?_)
    | (refine ⟨trivial, ?_⟩; gi_at_call 25; refine (callsIn_wide.2 C0.out).mono ?_; rintro e w' ⟨rfl, rfl⟩))
  obtain ⟨Q, hQ⟩ : ∃ Q, W.heap.size = Q := ⟨_, rfl⟩
  rw [hQ] at HQ HJ1 hBW ⊢
  obtain ⟨W1, hW1⟩ : ∃ W1, (W.alloc (.cells zrow 28)).setRow Q row = W1 := ⟨_, rfl⟩
  rw [hW1] at HQ HJ1 ⊢
  have HR0 := hid hr0
  clear hW1 hQ C0 AL RR R1 I1 Z1 hz hr0 hC
  gi_loopw [4, 5] (fun tv ov wr => ∃ (r : Option Nat) (j : Nat), j ≤ 262144 ∧ tv = .int .i64 ((r.getD 0 : Nat) : Int) ∧ ov = .bool r.isSome ∧ Hid (Blw S ((j : Int) - 1) r) ∧ Hid (J j wr) ∧ Hid (Bm wr Q S)) (fun tv ov _ => lfB tv ov)
  case atStart => exact ⟨r0, 262144, by omega, rfl, rfl, HR0, HJ1, HQ⟩
  case round =>
    clear HJ1 HQ HR0
    obtain ⟨r, j, hj, rfl, rfl, HA, HJ2, HQ2⟩ := hrel
    cases r with
    | none =>
      have HE := hid (show J 0 wr from passB_to HS.out j 0 (by omega) hj (fun i h1 h2 => HA.out i (by omega) (by omega)) HJ2.out)
      simp only [Option.getD_none, Option.isSome_none]
      gi_wp2
      refine ⟨fun _ h => (by cases h), ?_⟩
      gi_wp2
      go_end0
      exact ⟨⟨_, rfl⟩, Or.inl HE.out⟩
    | some u =>
      obtain ⟨a1, a2, a3, a4⟩ := HA.out
      have HE := hid (show J (u + 1) wr from passB_to HS.out j (u + 1) (by omega) hj (fun i h1 h2 => a4 i (by omega) (by omega) (by omega)) HJ2.out)
      obtain ⟨fn, tmps, assign, body, hy, hR⟩ := HY.out u wr a1 a2 HE.out
      have HRR := hid hR
      have a5 : (u : Int) < 262144 := by omega
      simp only [Option.getD_some, Option.isSome_some]
      clear hR a2 a3 a4 HA HJ2
      gi_wp2
      refine HRR.out.mono ?_
      rintro e W3 (⟨rfl, hJ3, hab⟩ | ⟨rfl, hJx3⟩)
      · have HJ3 := hid hJ3
        have HQ3 := hid (show Bm W3 Q S from HQ2.out.same (by
          obtain ⟨row, q1, _⟩ := HQ2.out
          rw [q1]; exact hab Q _ hBW q1))
        obtain ⟨r', hr'⟩ := blw_ex S ((u : Int) - 1)
        have C3 := hid (below_at Q S ((u : Int) - 1) r' hr' _ HQ3.out)
        have HR' := hid hr'
        have M1 := hid (show lfB (.int .i64 ((r'.getD 0 : Nat) : Int)) (.bool r'.isSome) < u + 1 by
          cases r' with
          | none => simp [lfB]
          | some u' =>
            have := hr'.2.2.1
            have := hr'.1
            simp [lfB, intOf]
            omega)
        clear hJ3 hab hr'
        gi_wp2_with (first | (refine ⟨trivial, ?_⟩; gi_at_call 25; refine (callsIn_wide.2 C3.out).mono ?_; rintro e w' ⟨rfl, rfl⟩))
        go_roundw
        case rel => exact ⟨r', u, by omega, rfl, rfl, HR', HJ3, HQ3⟩
        case measure => have := M1.out; simpa [lfB, intOf] using this
      · gi_wp2
        go_end0
        exact ⟨⟨_, rfl⟩, Or.inr hJx3⟩

/-- how a round may be left. -/
def rpall (B : Nat) (I : Nat → World → Prop) (Ix : Code → World → Prop) (i : Nat) (W : World) : Exit → Act → World → Prop
  | .normal, _, W' => KeepsOthers W W' ∧ Ab B W W' ∧ I (i + 1) W'
  | .ret, _, W' => KeepsOthers W W' ∧ Ix .ret W'
  | .exit id, _, W' => KeepsOthers W W' ∧ Ix (.exit id) W'
  | _, _, _ => False
theorem range_all {n : Nat} (hn : 3 ≤ n) {g : Operand} {ps : Array Tmp} {assign body : Code} {Q : Exit → Act → World → Prop} {a : Act} {w : World} {b C : Nat} {S : Nat → Bool}
    (hg : a.eval g = .func (.func 55) #[] #[.pointer (some ⟨C, 0, none⟩)]) (hps : ps.size = 1) (hm : Bm w b S) (hC : w.cell? ⟨C, 0, none⟩ = some (.pointer (some ⟨b, 0, none⟩))) (I : Nat → World → Prop) (Ix : Code → World → Prop)
    (hL : ∀ i W, I i W → Laid W) (hs : ∀ i W, i < 262144 → S i = false → I i W → I (i + 1) W)
    (hI : ∀ i, Blind w.heap.size (I i)) (hIx : ∀ c, Blind w.heap.size (Ix c)) (hgr : ∀ i W W', I i W → Below W.heap.size W W' → I i W') (h0 : I 0 w) (a₁ : Nat → Act)
    (hassign : ∀ (l i : Nat) (W : World) (K : Act → World → Prop), K (a₁ i) W →
      assign.wpIn (Fence.wide.inRound l) (n - 1 - 1) Tryd.prog (Exit.then K (fun _ _ _ => False)) { tmps := (ps.zip #[Value.int .i64 (i : Int)]).foldl (fun t (p, v) => t.setIfInBounds p v) a.tmps, defers := [] } W)
    (hbody : ∀ (l i : Nat) (W : World), w.heap.size + 1 < W.heap.size → i < 262144 → S i = true → I i W → body.wpIn (Fence.wide.inRound l) (n - 1 - 1) Tryd.prog (rpall (w.heap.size + 2) I Ix i W) (a₁ i) W)
    (hdone : ∀ (D : Nat) (W : World), w.heap.size ≤ D → I 262144 W → W.heap[D]? = some (.deferred (some [])) → Q .normal { a with defers := { target := .collected D, args := #[] } :: a.defers } W)
    (hstop : ∀ (D : Nat) (c : Code) (W : World), w.heap.size ≤ D → Ix c W → W.heap[D]? = some (.deferred (some [])) → c.wpIn Fence.wide n Tryd.prog Q { a with defers := { target := .collected D, args := #[] } :: a.defers } W) :
    (Code.rangeFunc g ps assign body).wpIn Fence.wide n Tryd.prog Q a w := by
  refine wpIn_rangeFunc (fun fn hfn => ?_)
  obtain ⟨L, hL2⟩ : ∃ L : LoopState → Option Code → Loop, ∀ s p, L s p = { state := s, pending := p, fn, tmps := a.tmps, params := ps, assign, body, defers := w.heap.size } := ⟨_, fun _ _ => rfl⟩
  obtain ⟨W1, hW1⟩ : ∃ W1, (w.alloc (.deferred (some []))).alloc (.loop (L .ready none)) = W1 := ⟨_, rfl⟩
  have sz : (w.alloc (.deferred (some []))).heap.size = w.heap.size + 1 := by simp
  have bw : Below w.heap.size w W1 := by rw [← hW1]; exact ((Below.refl _ w).alloc (Nat.le_refl _) _).alloc (by simp) _
  have r1 : W1.heap[w.heap.size + 1]? = some (.loop (L .ready none)) := by
    rw [← hW1, ← sz]; exact World.alloc_heap_new _ _
  have d1 : W1.heap[w.heap.size]? = some (.deferred (some [])) := by
    rw [← hW1, Below.heap_alloc _ _ _ (by rw [sz]; omega)]; exact World.alloc_heap_new _ _
  have z1 : W1.heap.size = w.heap.size + 2 := by rw [← hW1]; simp
  have i1 : I 0 W1 := hgr _ _ _ h0 bw
  refine ⟨w.heap.size + 1, [{ target := .collected w.heap.size, args := #[] }], W1, { target := .fn (.func 55) #[.pointer (some ⟨C, 0, none⟩)], args := #[.func (.yield (w.heap.size + 1)) #[] #[]] }, W1, 55,
    #[.func (.yield (w.heap.size + 1)) #[] #[], .pointer (some ⟨C, 0, none⟩)], W1, ?_, ?_, fun _ _ => trivial, ?_, fun _ => by omega, ?_⟩
  · rw [← hW1, hL2]; exact run_enterLoop_outer _ _ _ _ _
  · simp only [resolve, hg]
    simp [go_sem]
  · simp [invoke, go_sem, enters_of Tryd.func55 (by kernel_rfl) rfl _ _]
  · refine (all1_in (n - 1) (by omega) b C (w.heap.size + 2) S (w.heap.size + 1)
      (fun i W => I i W ∧ W.heap[w.heap.size + 1]? = some (.loop (L .ready none)) ∧ W.heap[w.heap.size]? = some (.deferred (some [])))
      (fun W => ∃ c, Ix c W ∧ W.heap[w.heap.size + 1]? = some (.loop (L .done (some c))) ∧ W.heap[w.heap.size]? = some (.deferred (some [])))
      (fun i W h => hL i W h.1) (fun i W W' h k => ⟨hgr i W W' h.1 k, (k.block _ (Array.getElem?_eq_some_iff.1 h.2.1).1).trans h.2.1, (k.block _ (Array.getElem?_eq_some_iff.1 h.2.2).1).trans h.2.2⟩)
      (fun i W hi hz h => ⟨hs i W hi hz h.1, h.2⟩) ?_ W1 (hm.on bw) (by rw [bw.cell (p := ⟨C, 0, none⟩) (block_lt_of_cell hC)]; exact hC) (by omega) ⟨i1, r1, d1⟩).mono ?_
    · rintro i W hi hlo ⟨hiW, hr, hd⟩
      have lt : w.heap.size + 1 < W.heap.size := (Array.getElem?_eq_some_iff.1 hr).1
      have hy := run_yield (P := Tryd.prog) (args := #[Value.int .i64 (i : Int)]) hr (by rw [hL2]; exact hps.symm)
      rw [hL2] at hy
      refine ⟨fn, _, assign, body, hy, roundIn_of_wpIn hfn (hassign _ i W _ ⟨_, run_beginRound hr (by rw [hL2]), ?_⟩)⟩
      rw [hL2]
      have r2 : (W.putObj (w.heap.size + 1) (.loop (L .busy none))).heap[w.heap.size + 1]? = some (.loop (L .busy none)) := World.putObj_heap_same lt
      have d2 : (W.putObj (w.heap.size + 1) (.loop (L .busy none))).heap[w.heap.size]? = some (.deferred (some [])) := (World.putObj_heap_other (by omega)).trans hd
      have i2 : I i (W.putObj (w.heap.size + 1) (.loop (L .busy none))) := (hI _).put _ hiW (by omega) hr rfl
      have ab1 : Ab (w.heap.size + 2) W (W.putObj (w.heap.size + 1) (.loop (L .busy none))) := fun k o hk ho => (World.putObj_heap_other (by omega)).trans ho
      rw [← hL2 .busy none] at *
      refine wpIn_mono (hbody _ i _ (by simpa using lt) hi hlo i2) ?_
      have ends : ∀ (W3 : World) (j : Option Code), KeepsOthers (W.putObj (w.heap.size + 1) (.loop (L .busy none))) W3 →
          W3.heap[w.heap.size + 1]? = some (.loop (L .busy none)) ∧
          (Instr.endRound (w.heap.size + 1) j).run Tryd.prog W3 = .ok (.bool j.isNone) (W3.putObj (w.heap.size + 1) (.loop (L (if j.isNone then .ready else .done) j))) ∧
          (W3.putObj (w.heap.size + 1) (.loop (L (if j.isNone then .ready else .done) j))).heap[w.heap.size + 1]? = some (.loop (L (if j.isNone then .ready else .done) j)) ∧
          (W3.putObj (w.heap.size + 1) (.loop (L (if j.isNone then .ready else .done) j))).heap[w.heap.size]? = some (.deferred (some [])) := by
        intro W3 j k3
        have r3 := k3.same _ _ r2 rfl
        have e3 := run_endRound (P := Tryd.prog) j r3
        refine ⟨r3, ?_, World.putObj_heap_same (Array.getElem?_eq_some_iff.1 r3).1, (World.putObj_heap_other (by omega)).trans (k3.same _ _ d2 rfl)⟩
        rw [e3, hL2, hL2]
      rintro e a3 W3 hp
      cases e with
      | normal =>
        obtain ⟨k3, ab3, i3⟩ := hp
        obtain ⟨r3, e3, r4, d4⟩ := ends W3 none k3
        exact ⟨_, _, e3, Or.inl ⟨rfl, ⟨(hI _).put _ i3 (by omega) r3 rfl, r4.trans (by rw [hL2]; rfl), d4⟩, fun k o hk ho => (World.putObj_heap_other (by omega)).trans (ab3 k o hk (ab1 k o hk ho))⟩⟩
      | ret =>
        obtain ⟨k3, i3⟩ := hp
        obtain ⟨r3, e3, r4, d4⟩ := ends W3 (some .ret) k3
        exact ⟨_, _, e3, Or.inr ⟨rfl, .ret, (hIx _).put _ i3 (by omega) r3 rfl, r4, d4⟩⟩
      | exit id =>
        obtain ⟨k3, i3⟩ := hp
        obtain ⟨r3, e3, r4, d4⟩ := ends W3 (some (.exit id)) k3
        exact ⟨_, _, e3, Or.inr ⟨rfl, .exit id, (hIx _).put _ i3 (by omega) r3 rfl, r4, d4⟩⟩
      | goto t => exact hp.elim
      | panic ch => exact hp.elim
      | outgrown => exact hp.elim
    · rintro e W2 ⟨⟨v, rfl⟩, (⟨i2, r2, d2⟩ | ⟨c, i2, r2, d2⟩)⟩
      · have e2 := run_endLoop (P := Tryd.prog) r2 (by rw [hL2]; simp)
        rw [hL2] at e2
        exact ⟨none, _, e2, hdone _ _ (Nat.le_refl _) ((hI _).put _ i2 (by omega) r2 rfl) ((World.putObj_heap_other (by omega)).trans d2)⟩
      · have e2 := run_endLoop (P := Tryd.prog) r2 (by rw [hL2]; simp)
        rw [hL2] at e2
        exact ⟨some c, _, e2, hstop _ c _ (Nat.le_refl _) ((hIx c).put _ i2 (by omega) r2 rfl) ((World.putObj_heap_other (by omega)).trans d2)⟩

/-- how a round may be left. -/
def rpback (B : Nat) (I : Nat → World → Prop) (Ix : Code → World → Prop) (i : Nat) (W : World) : Exit → Act → World → Prop
  | .normal, _, W' => KeepsOthers W W' ∧ Ab B W W' ∧ I i W'
  | .ret, _, W' => KeepsOthers W W' ∧ Ix .ret W'
  | .exit id, _, W' => KeepsOthers W W' ∧ Ix (.exit id) W'
  | _, _, _ => False
theorem range_back {n : Nat} (hn : 3 ≤ n) {g : Operand} {ps : Array Tmp} {assign body : Code} {Q : Exit → Act → World → Prop} {a : Act} {w : World} {b C : Nat} {S : Nat → Bool}
    (hg : a.eval g = .func (.func 56) #[] #[.pointer (some ⟨C, 0, none⟩)]) (hps : ps.size = 1) (hm : Bm w b S) (hC : w.cell? ⟨C, 0, none⟩ = some (.pointer (some ⟨b, 0, none⟩))) (I : Nat → World → Prop) (Ix : Code → World → Prop)
    (hL : ∀ i W, I i W → Laid W) (hs : ∀ i W, i < 262144 → S i = false → I (i + 1) W → I i W)
    (hI : ∀ i, Blind w.heap.size (I i)) (hIx : ∀ c, Blind w.heap.size (Ix c)) (hgr : ∀ i W W', I i W → Below W.heap.size W W' → I i W') (h0 : I 262144 w) (a₁ : Nat → Act)
    (hassign : ∀ (l i : Nat) (W : World) (K : Act → World → Prop), K (a₁ i) W →
      assign.wpIn (Fence.wide.inRound l) (n - 1 - 1) Tryd.prog (Exit.then K (fun _ _ _ => False)) { tmps := (ps.zip #[Value.int .i64 (i : Int)]).foldl (fun t (p, v) => t.setIfInBounds p v) a.tmps, defers := [] } W)
    (hbody : ∀ (l i : Nat) (W : World), w.heap.size + 1 < W.heap.size → i < 262144 → S i = true → I (i + 1) W → body.wpIn (Fence.wide.inRound l) (n - 1 - 1) Tryd.prog (rpback (w.heap.size + 2) I Ix i W) (a₁ i) W)
    (hdone : ∀ (D : Nat) (W : World), w.heap.size ≤ D → I 0 W → W.heap[D]? = some (.deferred (some [])) → Q .normal { a with defers := { target := .collected D, args := #[] } :: a.defers } W)
    (hstop : ∀ (D : Nat) (c : Code) (W : World), w.heap.size ≤ D → Ix c W → W.heap[D]? = some (.deferred (some [])) → c.wpIn Fence.wide n Tryd.prog Q { a with defers := { target := .collected D, args := #[] } :: a.defers } W) :
    (Code.rangeFunc g ps assign body).wpIn Fence.wide n Tryd.prog Q a w := by
  refine wpIn_rangeFunc (fun fn hfn => ?_)
  obtain ⟨L, hL2⟩ : ∃ L : LoopState → Option Code → Loop, ∀ s p, L s p = { state := s, pending := p, fn, tmps := a.tmps, params := ps, assign, body, defers := w.heap.size } := ⟨_, fun _ _ => rfl⟩
  obtain ⟨W1, hW1⟩ : ∃ W1, (w.alloc (.deferred (some []))).alloc (.loop (L .ready none)) = W1 := ⟨_, rfl⟩
  have sz : (w.alloc (.deferred (some []))).heap.size = w.heap.size + 1 := by simp
  have bw : Below w.heap.size w W1 := by rw [← hW1]; exact ((Below.refl _ w).alloc (Nat.le_refl _) _).alloc (by simp) _
  have r1 : W1.heap[w.heap.size + 1]? = some (.loop (L .ready none)) := by
    rw [← hW1, ← sz]; exact World.alloc_heap_new _ _
  have d1 : W1.heap[w.heap.size]? = some (.deferred (some [])) := by
    rw [← hW1, Below.heap_alloc _ _ _ (by rw [sz]; omega)]; exact World.alloc_heap_new _ _
  have z1 : W1.heap.size = w.heap.size + 2 := by rw [← hW1]; simp
  have i1 : I 262144 W1 := hgr _ _ _ h0 bw
  refine ⟨w.heap.size + 1, [{ target := .collected w.heap.size, args := #[] }], W1, { target := .fn (.func 56) #[.pointer (some ⟨C, 0, none⟩)], args := #[.func (.yield (w.heap.size + 1)) #[] #[]] }, W1, 56,
    #[.func (.yield (w.heap.size + 1)) #[] #[], .pointer (some ⟨C, 0, none⟩)], W1, ?_, ?_, fun _ _ => trivial, ?_, fun _ => by omega, ?_⟩
  · rw [← hW1, hL2]; exact run_enterLoop_outer _ _ _ _ _
  · simp only [resolve, hg]
    simp [go_sem]
  · simp [invoke, go_sem, enters_of Tryd.func56 (by kernel_rfl) rfl _ _]
  · refine (back1_in (n - 1) (by omega) b C (w.heap.size + 2) S (w.heap.size + 1)
      (fun i W => I i W ∧ W.heap[w.heap.size + 1]? = some (.loop (L .ready none)) ∧ W.heap[w.heap.size]? = some (.deferred (some [])))
      (fun W => ∃ c, Ix c W ∧ W.heap[w.heap.size + 1]? = some (.loop (L .done (some c))) ∧ W.heap[w.heap.size]? = some (.deferred (some [])))
      (fun i W h => hL i W h.1) (fun i W W' h k => ⟨hgr i W W' h.1 k, (k.block _ (Array.getElem?_eq_some_iff.1 h.2.1).1).trans h.2.1, (k.block _ (Array.getElem?_eq_some_iff.1 h.2.2).1).trans h.2.2⟩)
      (fun i W hi hz h => ⟨hs i W hi hz h.1, h.2⟩) ?_ W1 (hm.on bw) (by rw [bw.cell (p := ⟨C, 0, none⟩) (block_lt_of_cell hC)]; exact hC) (by omega) ⟨i1, r1, d1⟩).mono ?_
    · rintro i W hi hlo ⟨hiW, hr, hd⟩
      have lt : w.heap.size + 1 < W.heap.size := (Array.getElem?_eq_some_iff.1 hr).1
      have hy := run_yield (P := Tryd.prog) (args := #[Value.int .i64 (i : Int)]) hr (by rw [hL2]; exact hps.symm)
      rw [hL2] at hy
      refine ⟨fn, _, assign, body, hy, roundIn_of_wpIn hfn (hassign _ i W _ ⟨_, run_beginRound hr (by rw [hL2]), ?_⟩)⟩
      rw [hL2]
      have r2 : (W.putObj (w.heap.size + 1) (.loop (L .busy none))).heap[w.heap.size + 1]? = some (.loop (L .busy none)) := World.putObj_heap_same lt
      have d2 : (W.putObj (w.heap.size + 1) (.loop (L .busy none))).heap[w.heap.size]? = some (.deferred (some [])) := (World.putObj_heap_other (by omega)).trans hd
      have i2 : I (i + 1) (W.putObj (w.heap.size + 1) (.loop (L .busy none))) := (hI _).put _ hiW (by omega) hr rfl
      have ab1 : Ab (w.heap.size + 2) W (W.putObj (w.heap.size + 1) (.loop (L .busy none))) := fun k o hk ho => (World.putObj_heap_other (by omega)).trans ho
      rw [← hL2 .busy none] at *
      refine wpIn_mono (hbody _ i _ (by simpa using lt) hi hlo i2) ?_
      have ends : ∀ (W3 : World) (j : Option Code), KeepsOthers (W.putObj (w.heap.size + 1) (.loop (L .busy none))) W3 →
          W3.heap[w.heap.size + 1]? = some (.loop (L .busy none)) ∧
          (Instr.endRound (w.heap.size + 1) j).run Tryd.prog W3 = .ok (.bool j.isNone) (W3.putObj (w.heap.size + 1) (.loop (L (if j.isNone then .ready else .done) j))) ∧
          (W3.putObj (w.heap.size + 1) (.loop (L (if j.isNone then .ready else .done) j))).heap[w.heap.size + 1]? = some (.loop (L (if j.isNone then .ready else .done) j)) ∧
          (W3.putObj (w.heap.size + 1) (.loop (L (if j.isNone then .ready else .done) j))).heap[w.heap.size]? = some (.deferred (some [])) := by
        intro W3 j k3
        have r3 := k3.same _ _ r2 rfl
        have e3 := run_endRound (P := Tryd.prog) j r3
        refine ⟨r3, ?_, World.putObj_heap_same (Array.getElem?_eq_some_iff.1 r3).1, (World.putObj_heap_other (by omega)).trans (k3.same _ _ d2 rfl)⟩
        rw [e3, hL2, hL2]
      rintro e a3 W3 hp
      cases e with
      | normal =>
        obtain ⟨k3, ab3, i3⟩ := hp
        obtain ⟨r3, e3, r4, d4⟩ := ends W3 none k3
        exact ⟨_, _, e3, Or.inl ⟨rfl, ⟨(hI _).put _ i3 (by omega) r3 rfl, r4.trans (by rw [hL2]; rfl), d4⟩, fun k o hk ho => (World.putObj_heap_other (by omega)).trans (ab3 k o hk (ab1 k o hk ho))⟩⟩
      | ret =>
        obtain ⟨k3, i3⟩ := hp
        obtain ⟨r3, e3, r4, d4⟩ := ends W3 (some .ret) k3
        exact ⟨_, _, e3, Or.inr ⟨rfl, .ret, (hIx _).put _ i3 (by omega) r3 rfl, r4, d4⟩⟩
      | exit id =>
        obtain ⟨k3, i3⟩ := hp
        obtain ⟨r3, e3, r4, d4⟩ := ends W3 (some (.exit id)) k3
        exact ⟨_, _, e3, Or.inr ⟨rfl, .exit id, (hIx _).put _ i3 (by omega) r3 rfl, r4, d4⟩⟩
      | goto t => exact hp.elim
      | panic ch => exact hp.elim
      | outgrown => exact hp.elim
    · rintro e W2 ⟨⟨v, rfl⟩, (⟨i2, r2, d2⟩ | ⟨c, i2, r2, d2⟩)⟩
      · have e2 := run_endLoop (P := Tryd.prog) r2 (by rw [hL2]; simp)
        rw [hL2] at e2
        exact ⟨none, _, e2, hdone _ _ (Nat.le_refl _) ((hI _).put _ i2 (by omega) r2 rfl) ((World.putObj_heap_other (by omega)).trans d2)⟩
      · have e2 := run_endLoop (P := Tryd.prog) r2 (by rw [hL2]; simp)
        rw [hL2] at e2
        exact ⟨some c, _, e2, hstop _ c _ (Nat.le_refl _) ((hIx c).put _ i2 (by omega) r2 rfl) ((World.putObj_heap_other (by omega)).trans d2)⟩
end Go.Proofs.YtcbfgodknonefaaDoor
