/-
  All of bytes; what it gives, for whatever is done in a round.
-/
import Derived.RangeFuncNested
import Derived.RangeFuncBound
import Derived.RangeFuncCalls
import Derived.RangeFuncLeaves
import Derived.Shelf.Abstract
import Derived.Shelf.RegionOpen
import Derived.Stop.RegionWithIn
import Derived.WalkKit
import Derived.OwnWalkIn
import Derived.TacticsInMore
import Derived.LoopNIn
import Derived.LoopIn
import Derived.Laws.Tables
import Derived.Laws.Rows
import Derived.Test.YtioohpdjmamhgaaDoorAllA
import Derived.Test.YtioohpdjmamhgaaDoorWaM
namespace Go.Proofs.YtioohpdjmamhgaaDoor
open Go.RowKit Go.Deep Crc
set_option linter.unusedVariables false
set_option linter.unusedSimpArgs false
set_option maxRecDepth 100000
set_option maxHeartbeats 2000000
attribute [local go_sem] Oper.semAt_some
theorem allF_any (p : Option Addr) (n c : Nat) (w : World) :
    Calls Tryd.prog 17 #[.slice p n c] w fun e w' => e = .returned (.func (.func 28) #[] #[.pointer (some ⟨w.heap.size, 0, none⟩)]) ∧ w' = w.alloc (.cells #[.slice p n c] 22) := by
  go_enter Tryd.func17, Tryd.ntmps17
  go_wp2_with fail
  go_ret
  exact ⟨by simp, rfl⟩
/-- bytes that lie from a place on stay. -/
def Ab (B : Nat) (W W' : World) : Prop := ∀ k cs, B ≤ k → W.heap[k]? = some (.cells cs 5 (0, 0)) → W'.heap[k]? = some (.cells cs 5 (0, 0))
theorem cell_same' {w w' : World} {g : Nat} (e : w'.heap[g]? = w.heap[g]?) (j : Nat) : w'.cell? ⟨g, j, none⟩ = w.cell? ⟨g, j, none⟩ := by
  simp only [World.cell?, e]
def slen : Value → Nat
  | .slice _ n _ => n
  | _ => 0
/-- what is left of the bytes. -/
def Rst (w1 : World) (g : Nat) (xs : List Nat) (off : Nat) (iv : Value) (wr : World) : Prop :=
  (xs.length = off ∧ ∃ p cap, iv = .slice p 0 cap) ∨ ∃ cap, off < xs.length ∧ iv = .slice (some ⟨g, off, none⟩) (xs.length - off) cap ∧ xs.length - off ≤ cap ∧ wr.heap[g]? = w1.heap[g]?
theorem all1_any (n : Nat) (hn : 1 ≤ n) (CB B l : Nat) (xs : List Nat) (v : Value) (J : List (List Nat) → World → Prop) (Jx : World → Prop)
    (hg : ∀ r W W', J r W → Below W.heap.size W W' → J r W') (hLd : ∀ r W, J r W → Laid W)
    (hY : ∀ c r V E W, J (c :: r) W → UnpR c V E → YieldAt Fence.wide (n - 1) Tryd.prog l #[V, .int .i64 E] W fun e W' => ∃ c : Bool, e = .returned (.bool c) ∧ ((c = true ∧ J r W' ∧ Ab B W W') ∨ (c = false ∧ Jx W')))
    (W : World) (hCB : W.cell? ⟨CB, 0, none⟩ = some v) (hS : Sx W v xs) (hx : Oct xs) (hlen : xs.length ≤ 140737488351232) (hBW : B ≤ W.heap.size) (h0 : J (chs xs) W) :
    CallsIn Fence.wide n Tryd.prog 28 #[.func (.yield l) #[] #[], .pointer (some ⟨CB, 0, none⟩)] W fun e W' => (∃ v, e = .returned v) ∧ (J [] W' ∨ Jx W') := by
  have HY := hid hY
  have HG := hid hg
  have HLD := hid hLd
  have H0 := hid h0
  have HCL := hid (clone_any v xs W hlen hS)
  have HX := hid hx
  clear hY hg hLd h0 hS hx
  refine callsIn_of_wp Tryd.func28 rfl trivial ?_ rfl
  simp only [Tryd.ntmps28, List.size_toArray, List.length_cons, List.length_nil, Nat.reduceAdd, Nat.reduceSub, Array.replicate_succ, Array.replicate_zero, List.push_toArray, List.append_toArray, List.nil_append, List.cons_append]
  gi_wp2_with (first | (refine ⟨trivial, ?_⟩; gi_at_call 29; refine (callsIn_wide.2 HCL.out).mono ?_; rintro e w1 ⟨v', rfl, hcp, hbel⟩; have HJ1 := hid (HG.out _ _ _ H0.out hbel); have HCP := hid hcp; have HB1 := hid hbel; clear hcp hbel; refine Hid.out ?_))
  clear HCL H0
  have hst : ∃ g, B ≤ g ∧ Rst w1 g xs 0 v' w1 ∧ (xs.length = 0 ∨ ((∃ cur, w1.heap[g]? = some (.cells cur 5 (0, 0))) ∧ Bs w1 g 0 xs)) := by
    rcases HCP.out with ⟨rfl, rfl⟩ | ⟨g, c, rfl, hown⟩
    · exact ⟨B, Nat.le_refl _, .inl ⟨rfl, none, 0, rfl⟩, .inl rfl⟩
    · by_cases hz : xs.length = 0
      · exact ⟨B, Nat.le_refl _, .inl ⟨hz, some ⟨g, 0, none⟩, c, by rw [hz]⟩, .inl hz⟩
      · have hbs : Bs w1 g 0 xs := fun i hi => by
          have := World.ownsRow.cellAt hown i (by simpa using hi)
          rw [bv_get xs i hi] at this
          simpa using this
        have hge := (hown.lt g rfl).1
        obtain ⟨h1, h2 | ⟨g', c', cur, e, r⟩⟩ := hown
        · simp at h2
        · cases e
          have := r.2.2.1
          exact ⟨g, Nat.le_trans hBW hge, .inr ⟨c, by omega, by simp, by omega, rfl⟩, .inr ⟨⟨cur, r.2.1⟩, hbs⟩⟩
  obtain ⟨g, hBg, hR0, hbs⟩ := hst
  have HR0 := hid hR0
  have HBS := hid hbs
  clear HCP hR0 hbs
  refine hid ?_
  gi_wp2_with fail
  gi_loopw [3] (fun iv wr => ∃ off : Nat, off ≤ xs.length ∧ Hid (Rst w1 g xs off iv wr) ∧ Hid (J (chs (xs.drop off)) wr)) (fun iv _ => slen iv)
  case atStart => exact ⟨0, Nat.zero_le _, HR0, by simpa using HJ1⟩
  case round =>
    clear HJ1 HR0
    obtain ⟨off, hof, HR, HJ⟩ := hrel
    rcases HR.out with ⟨he, p, cap, rfl⟩ | ⟨cap, hlt, rfl, hcap, hq⟩
    · have HE := hid (show J [] wr from by have := HJ.out; rwa [List.drop_eq_nil_of_le (by omega), chs_nil] at this)
      gi_wp2_with fail
      go_end0
      exact ⟨⟨_, rfl⟩, Or.inl HE.out⟩
    · obtain ⟨m, hm⟩ : ∃ m, xs.length - off = m := ⟨_, rfl⟩
      rw [hm] at hcap ⊢
      have hm1 : 0 < (m : Int) := by omega
      rcases Nat.lt_or_ge 64 m with h64 | h64
      · have k64 : ¬ (m : Int) ≤ 64 := by omega
        have HU := hid (show Calls Tryd.prog 15 #[.slice (some ⟨g, off, none⟩) 64 cap] wr fun e w' => (∃ V E, e = .returned (.tuple #[V, .int .i64 E]) ∧ UnpR ((xs.drop off).take 64) V E) ∧ Below wr.heap.size wr w' from by
          have hl : ((xs.drop off).take 64).length = 64 := by simp; omega
          have h1 := unp_rel (.slice (some ⟨g, off, none⟩) ((xs.drop off).take 64).length cap) ((xs.drop off).take 64) wr (by rw [hl]; omega) (fun x hx => HX.out x (List.mem_of_mem_drop (List.mem_of_mem_take hx))) (.inr ⟨g, off, cap, rfl, fun i hi => by
            rcases HBS.out with h0 | ⟨_, hb⟩
            · omega
            · have := hb (off + i) (by simp at hi; omega)
              rw [cell_same' hq]
              simpa using this⟩) (HLD.out _ _ HJ.out)
          rw [hl] at h1
          exact h1)
        have HJc := hid (show J ((xs.drop off).take 64 :: chs (xs.drop (off + 64))) wr from by
          have h1 := HJ.out
          rw [chs_ne (by intro e; have := congrArg List.length e; simp at this; omega), List.drop_drop] at h1
          have e2 : xs.drop (off + 64) = xs.drop (off + 64) := by
            first
            | rfl
            | (rw [List.drop_eq_nil_of_le (by omega), List.drop_eq_nil_of_le (by omega)])
          rw [← e2]
          first
          | exact h1
          | (rw [Nat.add_comm]; exact h1))
        obtain ⟨ck, hck⟩ : ∃ ck, (xs.drop off).take 64 = ck := ⟨_, rfl⟩
        rw [hck] at HU HJc
        have HOF := hid (show off + 64 ≤ xs.length by omega)
        obtain ⟨of2, hof2⟩ : ∃ of2, off + 64 = of2 := ⟨_, rfl⟩
        have HO2 := hid hof2
        have HMM := hid (show m - 64 < m ∧ xs.length - of2 = m - 64 ∧ m - 64 ≤ cap - 64 by omega)
        have q1 : (0 : Int) ≤ (m : Int) := by omega
        have q2 : (64 : Int) ≤ (cap : Int) := by omega
        have q3 : (64 : Int) ≤ (m : Int) := by omega
        have HQ := hid hq
        rw [hof2] at HJc
        have HMX := hid (show m = xs.length - off from hm.symm)
        clear hof2 hck hm hlt hof HJ hq HR
        gi_wp2_with (first | (refine ⟨trivial, ?_⟩; gi_at_call 15; refine (callsIn_wide.2 HU.out).mono ?_; rintro e w4 ⟨⟨V, E, rfl, hU⟩, hbel⟩; have HJ4 := hid (HG.out _ _ _ HJc.out hbel); have HUN := hid hU; have HB4 := hid hbel; clear hU hbel; refine Hid.out ?_))
        obtain ⟨fn, tmps, assign, body, hy, hR⟩ := HY.out ck _ V E _ HJ4.out HUN.out
        have HRR := hid hR
        clear hR HU HJc HJ4 HUN
        refine hid ?_
        gi_wp2_with (first | (refine HRR.out.mono ?_; rintro e W3 ⟨c9, rfl, hc⟩; have HC := hid hc; clear hc; refine Hid.out ?_))
        clear HRR hy
        refine hid ?_
        cases c9 with
        | false =>
          have HX2 := hid (show Jx W3 from by
            rcases HC.out with ⟨e, _⟩ | ⟨_, h⟩
            · cases e
            · exact h)
          clear HC
          gi_wp2_with fail
          refine bodyPost_ret (results_none rfl _ _ _) rfl ?_
          exact ⟨⟨_, rfl⟩, Or.inr HX2.out⟩
        | true =>
          have HX2 := hid (show J (chs (xs.drop of2)) W3 ∧ Ab B w4 W3 from by
            rcases HC.out with ⟨_, h⟩ | ⟨e, _⟩
            · exact h
            · cases e)
          clear HC
          gi_wp2_with fail
          go_roundw
          case rel =>
            refine ⟨of2, by have := HO2.out; have := HOF.out; omega, hid ?_, hid HX2.out.1⟩
            by_cases hz : xs.length = of2
            · exact .inl ⟨hz, _, _, by first | rfl | (rw [show m - 64 = 0 by have := HMM.out; omega])⟩
            · refine .inr ⟨cap - 64, by have := HO2.out; have := HOF.out; omega, ?_, by have := HMM.out; omega, ?_⟩
              · have h1 := HMM.out.2.1
                have h2 := HO2.out
                rw [h1, ← h2]
              · rcases HBS.out with h0 | ⟨h1, _⟩
                · have := HOF.out; omega
                · obtain ⟨cur, h1⟩ := h1
                  have h3 : wr.heap[g]? = some (.cells cur 5 (0, 0)) := HQ.out.trans h1
                  rw [h1]
                  exact HX2.out.2 _ _ hBg ((HB4.out.block _ (Array.getElem?_eq_some_iff.1 h3).1).trans h3)
          case measure => simpa [slen] using HMM.out.1
      · have k64 : (m : Int) ≤ 64 := by omega
        have HU := hid (show Calls Tryd.prog 15 #[.slice (some ⟨g, off, none⟩) m cap] wr fun e w' => (∃ V E, e = .returned (.tuple #[V, .int .i64 E]) ∧ UnpR ((xs.drop off).take 64) V E) ∧ Below wr.heap.size wr w' from by
          have hl : ((xs.drop off).take 64).length = m := by simp; omega
          have h1 := unp_rel (.slice (some ⟨g, off, none⟩) ((xs.drop off).take 64).length cap) ((xs.drop off).take 64) wr (by rw [hl]; omega) (fun x hx => HX.out x (List.mem_of_mem_drop (List.mem_of_mem_take hx))) (.inr ⟨g, off, cap, rfl, fun i hi => by
            rcases HBS.out with h0 | ⟨_, hb⟩
            · omega
            · have := hb (off + i) (by simp at hi; omega)
              rw [cell_same' hq]
              simpa using this⟩) (HLD.out _ _ HJ.out)
          rw [hl] at h1
          exact h1)
        have HJc := hid (show J ((xs.drop off).take 64 :: chs (xs.drop (off + m))) wr from by
          have h1 := HJ.out
          rw [chs_ne (by intro e; have := congrArg List.length e; simp at this; omega), List.drop_drop] at h1
          have e2 : xs.drop (off + 64) = xs.drop (off + m) := by
            first
            | rfl
            | (rw [List.drop_eq_nil_of_le (by omega), List.drop_eq_nil_of_le (by omega)])
          rw [← e2]
          first
          | exact h1
          | (rw [Nat.add_comm]; exact h1))
        obtain ⟨ck, hck⟩ : ∃ ck, (xs.drop off).take 64 = ck := ⟨_, rfl⟩
        rw [hck] at HU HJc
        have HOF := hid (show off + m ≤ xs.length by omega)
        obtain ⟨of2, hof2⟩ : ∃ of2, off + m = of2 := ⟨_, rfl⟩
        have HO2 := hid hof2
        have HMM := hid (show m - m < m ∧ xs.length - of2 = m - m ∧ m - m ≤ cap - m by omega)
        have q1 : (0 : Int) ≤ (m : Int) := by omega
        have q2 : (m : Int) ≤ (cap : Int) := by omega
        have q3 : (m : Int) ≤ (m : Int) := by omega
        have HQ := hid hq
        rw [hof2] at HJc
        have HMX := hid (show m = xs.length - off from hm.symm)
        clear hof2 hck hm hlt hof HJ hq HR
        gi_wp2_with (first | (refine ⟨trivial, ?_⟩; gi_at_call 15; refine (callsIn_wide.2 HU.out).mono ?_; rintro e w4 ⟨⟨V, E, rfl, hU⟩, hbel⟩; have HJ4 := hid (HG.out _ _ _ HJc.out hbel); have HUN := hid hU; have HB4 := hid hbel; clear hU hbel; refine Hid.out ?_))
        obtain ⟨fn, tmps, assign, body, hy, hR⟩ := HY.out ck _ V E _ HJ4.out HUN.out
        have HRR := hid hR
        clear hR HU HJc HJ4 HUN
        refine hid ?_
        gi_wp2_with (first | (refine HRR.out.mono ?_; rintro e W3 ⟨c9, rfl, hc⟩; have HC := hid hc; clear hc; refine Hid.out ?_))
        clear HRR hy
        refine hid ?_
        cases c9 with
        | false =>
          have HX2 := hid (show Jx W3 from by
            rcases HC.out with ⟨e, _⟩ | ⟨_, h⟩
            · cases e
            · exact h)
          clear HC
          gi_wp2_with fail
          refine bodyPost_ret (results_none rfl _ _ _) rfl ?_
          exact ⟨⟨_, rfl⟩, Or.inr HX2.out⟩
        | true =>
          have HX2 := hid (show J (chs (xs.drop of2)) W3 ∧ Ab B w4 W3 from by
            rcases HC.out with ⟨_, h⟩ | ⟨e, _⟩
            · exact h
            · cases e)
          clear HC
          gi_wp2_with fail
          go_roundw
          case rel =>
            refine ⟨of2, by have := HO2.out; have := HOF.out; omega, hid ?_, hid HX2.out.1⟩
            by_cases hz : xs.length = of2
            · exact .inl ⟨hz, _, _, by first | rfl | (rw [show m - m = 0 by have := HMM.out; omega])⟩
            · exfalso; have := HMX.out; have := HO2.out; have := HOF.out; omega
          case measure => simpa [slen] using HMM.out.1
end Go.Proofs.YtioohpdjmamhgaaDoor
