/-
  All; what it gives, for whatever is done in a round.
-/
import Derived.RangeFuncNested
import Derived.RangeFuncBound
import Derived.RangeFuncCalls
import Derived.RangeFuncLeaves
import Derived.Shelf.Abstract
import Derived.Shelf.RegionOpen
import Derived.Stop.RegionWithIn
import Derived.WalkKit
import Derived.OwnWalkIn
import Derived.TacticsInMore
import Derived.LoopNIn
import Derived.LoopIn
import Derived.Laws.Tables
import Derived.Laws.Rows
import Derived.Test.YthidnipmkffilaaIxW
namespace Go.Proofs.Ythidnipmkffilaa
open Go.RowKit Go.Deep
set_option linter.unusedVariables false
set_option linter.unusedSimpArgs false
set_option maxRecDepth 100000
set_option maxHeartbeats 2000000
attribute [local go_sem] Oper.semAt_some
theorem allF_any (b : Nat) (w : World) :
    Calls Try.prog 23 #[.pointer (some ⟨b, 0, none⟩)] w fun e w' => e = .returned (.func (.func 35) #[] #[.pointer (some ⟨w.heap.size, 0, none⟩)]) ∧ w' = w.alloc (.cells #[.pointer (some ⟨b, 0, none⟩)] 22) := by
  go_enter Try.func23, Try.ntmps23
  go_wp2_with fail
  go_ret
  exact ⟨by simp, rfl⟩
/-- what lies from a place on stays. -/
def Ab (B : Nat) (W W' : World) : Prop := ∀ k o, B ≤ k → W.heap[k]? = some o → W'.heap[k]? = some o
theorem cell_same' {w w' : World} {g : Nat} (e : w'.heap[g]? = w.heap[g]?) (j : Nat) : w'.cell? ⟨g, j, none⟩ = w.cell? ⟨g, j, none⟩ := by
  simp only [World.cell?, e]
theorem all1_any (n : Nat) (hn : 1 ≤ n) (CX X P B l m room : Nat) (T : Ix.Tab) (J : List (Int × Int) → World → Prop) (Jx : World → Prop)
    (hg : ∀ r W W', J r W → Below W.heap.size W W' → J r W')
    (hY : ∀ x r W, J (x :: r) W → YieldAt Fence.wide (n - 1) Try.prog l #[.int .u64 x.1, .int .i64 x.2] W fun e W' => ∃ c : Bool, e = .returned (.bool c) ∧ ((c = true ∧ J r W' ∧ Ab B W W') ∨ (c = false ∧ Jx W')))
    (W : World) (hCX : W.cell? ⟨CX, 0, none⟩ = some (.pointer (some ⟨X, 0, none⟩))) (hL : Lx W X P m room T) (hBW : B ≤ W.heap.size) (h0 : ∀ L : List (Int × Int), L.Perm (us T m) → L.Pairwise (fun x y => ¬ y.1 < x.1) → J L W) :
    CallsIn Fence.wide n Try.prog 35 #[.func (.yield l) #[] #[], .pointer (some ⟨CX, 0, none⟩)] W fun e W' => (∃ v, e = .returned v) ∧ (J [] W' ∨ Jx W') := by
  have HY := hid hY
  have HG := hid hg
  have H0 := hid h0
  have HS := hid (sorted_any hL)
  have HM := hid (show ∀ L : List (Int × Int), L.Perm (us T m) → L.length ≤ 131072 from fun L hp => by
    rw [hp.length_eq, us_len]
    have := hL.le; have := hL.two; have := hL.most; omega)
  clear hY hg h0 hL
  refine callsIn_of_wp Try.func35 rfl trivial ?_ rfl
  simp only [Try.ntmps35, List.size_toArray, List.length_cons, List.length_nil, Nat.reduceAdd, Nat.reduceSub, Array.replicate_succ, Array.replicate_zero, List.push_toArray, List.append_toArray, List.nil_append, List.cons_append]
  gi_wp2_with (first | (refine ⟨trivial, ?_⟩; gi_at_call 36; refine (callsIn_wide.2 HS.out).mono ?_; rintro e w1 ⟨g, c, L, rfl, hgs, hgl, hperm, hpw, hc, hbel⟩; have HJ1 := hid (HG.out _ _ _ (H0.out L hperm hpw) hbel); have HC1 := hid hc; have HGL := hid (And.intro (Nat.le_trans hBW hgs) hgl); have HLL := hid (HM.out L hperm); clear hperm hpw hc hbel hgs hgl; refine Hid.out ?_))
  clear HS H0 HM
  refine hid ?_
  have hlen := HLL.out
  gi_wp2_with fail
  gi_loopw [8] (fun iv wr => ∃ i : Nat, i ≤ L.length ∧ iv = .int .i64 i ∧ Hid (wr.heap[g]? = w1.heap[g]?) ∧ Hid (J (L.drop i) wr)) (fun iv _ => L.length - (intOf iv).toNat)
  case atStart => exact ⟨0, Nat.zero_le _, rfl, hid rfl, HJ1⟩
  case round =>
    clear HJ1
    obtain ⟨i, hi, rfl, HQ, HJ⟩ := hrel
    by_cases hin : i < L.length
    · obtain ⟨c0, c1, c2⟩ := HC1.out i hin
      rw [← cell_same' HQ.out] at c0 c1 c2
      have HJ' := hid (show J ((L[i].1, L[i].2) :: L.drop (i + 1)) wr from by rw [← show L.drop i = (L[i].1, L[i].2) :: L.drop (i + 1) from by rw [List.drop_eq_getElem_cons hin]]; exact HJ.out)
      obtain ⟨k, hk⟩ : ∃ k, L[i].1 = k := ⟨_, rfl⟩
      obtain ⟨v, hv⟩ : ∃ v, L[i].2 = v := ⟨_, rfl⟩
      rw [hk] at c1 HJ'
      rw [hv] at c2 HJ'
      have f1 : (i : Int) < (L.length : Int) := by omega
      have f2 : (0 : Int) ≤ (i : Int) := by omega
      have ct1 : ((i : Int)).toNat = i := by omega
      have wj : IntKind.i64.wrap ((i : Int) + 1) = ((i + 1 : Nat) : Int) := by simp [IntKind.wrap, IntKind.bits, IntKind.signed]; omega
      clear hk hv HJ
      have J2 := hid (HG.out _ _ _ HJ'.out ((Below.refl _ wr).alloc (Nat.le_refl _) (.cells #[.bool true, .int .u64 k, .int .i64 v] 71)))
      have HQ2 := hid (show (wr.alloc (.cells #[.bool true, .int .u64 k, .int .i64 v] 71)).heap[g]? = w1.heap[g]? from by
        rw [Below.heap_alloc _ _ _ (by
          have h1 := HGL.out.2
          have h2 := HQ.out
          rw [Array.getElem?_eq_getElem h1] at h2
          exact (Array.getElem?_eq_some_iff.1 h2).1)]
        exact HQ.out)
      obtain ⟨fn, tmps, assign, body, hy, hR⟩ := HY.out (k, v) (L.drop (i + 1)) _ J2.out
      have HRR := hid hR
      dsimp only at hy
      have HJM := hid (show i + 1 ≤ L.length ∧ L.length - (i + 1) < L.length - i by omega)
      obtain ⟨j1, hj1⟩ : ∃ j1, i + 1 = j1 := ⟨_, rfl⟩
      rw [hj1] at wj HJM HRR
      clear hR HJ' J2 hj1 hi hin
      gi_wp2_with (first | (refine HRR.out.mono ?_; rintro e W3 ⟨c9, rfl, hc⟩; have HC := hid hc; clear hc; refine Hid.out ?_))
      clear HRR hy c0 c1 c2 f1 f2 ct1
      refine hid ?_
      cases c9 with
      | false =>
        have HX := hid (show Jx W3 from by
          rcases HC.out with ⟨e, _⟩ | ⟨_, h⟩
          · cases e
          · exact h)
        clear HC
        gi_wp2_with fail
        refine bodyPost_ret (results_none rfl _ _ _) rfl ?_
        exact ⟨⟨_, rfl⟩, Or.inr HX.out⟩
      | true =>
        have HX := hid (show J (L.drop j1) W3 ∧ Ab B (wr.alloc (.cells #[.bool true, .int .u64 k, .int .i64 v] 71)) W3 from by
          rcases HC.out with ⟨_, h⟩ | ⟨e, _⟩
          · exact h
          · cases e)
        clear HC
        gi_wp2_with fail
        go_roundw
        case rel =>
          refine ⟨j1, HJM.out.1, rfl, hid ?_, hid HX.out.1⟩
          have h1 := HGL.out.2
          have h2 := HQ2.out
          rw [Array.getElem?_eq_getElem h1] at h2 ⊢
          exact HX.out.2 _ _ HGL.out.1 h2
        case measure => simpa [intOf] using HJM.out.2
    · have hnl : i = L.length := by omega
      subst hnl
      have f1 : ¬ (L.length : Int) < (L.length : Int) := by omega
      have HE := hid (show J [] wr from by have := HJ.out; rwa [List.drop_length] at this)
      gi_wp2_with fail
      go_end0
      exact ⟨⟨_, rfl⟩, Or.inl HE.out⟩
end Go.Proofs.Ythidnipmkffilaa
