/-
  ZrE
-/
import Derived.Test.YtlhbgaiiehljpaaGreatRows
import Derived.Test.YtlhbgaiiehljpaaGreatZrD
import Derived.ProofKit
import Derived.OpenShut
import Derived.JoinedCond
import Derived.ChangeSlices
import Derived.ChangeOld
import Derived.ChangeArms
import Derived.Below
import Derived.Lib.SmallJoins
import Derived.ChangeMaps5
import Derived.Stop.RegionWithIn
namespace Go.Proofs.YtlhbgaiiehljpaaGreat.Ac
open Go.ChangeShapes Go.WideShapes Go.ChangeAt Go.RowKit Go.Joins Go.Deep
set_option linter.unusedVariables false
set_option maxRecDepth 100000
theorem add_mid (b o j : Nat) : (⟨b, o, none⟩ : Addr).add j = ⟨b, o + j, none⟩ := by unfold Addr.add; split <;> simp_all
theorem own : ownKnob Tryz.prog.godebug = none := by kernel_rfl
theorem laidOut : laidOutB Tryz.prog = true := by kernel_rfl
theorem cellsM : Tryz.prog.cellsOf 36 = 1 := by kernel_rfl
theorem cellsW : Tryz.prog.cellsOf 31 = 1 := by kernel_rfl
theorem bounds_u64' {x : Int} (h : (Lit.int .u64 x).wf = true) : 0 ≤ x ∧ x < 18446744073709551616 := by have := bounds_u64 h; omega
theorem all_len {H : Type} (l : List (DataW H)) : l.length ≤ Rows.uptoBulkAll l := by
 induction l with
 | nil => simp
 | cons x r ih =>
  have h1 : 1 ≤ Rows.uptoBulk x := by
   cases x with
   | lit l => cases l <;> simp [Rows.uptoBulk]
   | _ => simp [Rows.uptoBulk]
  simp only [Rows.uptoBulkAll, List.length_cons]
  omega
theorem cellsD : Tryz.prog.cellsOf 59 = 6 := by kernel_rfl
theorem cellsI : Tryz.prog.cellsOf 3 = 1 := by kernel_rfl
theorem bounds_i64' {x : Int} (h : (Lit.int .i64 x).wf = true) : -9223372036854775808 ≤ x ∧ x < 9223372036854775808 := by
 simp [Lit.wf, IntKind.min, IntKind.max, IntKind.signed, IntKind.bits] at h
 omega
section
variable {H : Type} {enc : TypeId × Value → H} {W : World} {base b0 : Nat} {spare : Nat → Bool} {held : Bool} {r : Reach}
set_option maxRecDepth 100000 in
theorem open_dl {n : Nat} {cs : List Value} {y : DataW H × List MemPlace} (hl : cs.length = 6) (h : DataW.trod enc Tryz.prog W base spare held n 59 cs = some y) :
  ∃ x : Dl, cs = (drow x).toList ∧ x.ok := by
 match cs, hl with
 | [c0, c1, c2, c3, c4, c5], _ =>
  obtain ⟨xs, m, _, _, _, hlen, hf⟩ := DataW.trod_struct Tryz.underlying59 h
  have g0 : DataW.trod enc Tryz.prog W base spare held m 36 (([c0, c1, c2, c3, c4, c5].drop 0).take (Tryz.prog.cellsOf 36)) = xs[0]? := hf 0 _ rfl
  rw [List.getElem?_eq_getElem (by rw [hlen]; exact (by decide : 0 < 6)), cellsM] at g0
  have g1 : DataW.trod enc Tryz.prog W base spare held m 36 (([c0, c1, c2, c3, c4, c5].drop 1).take (Tryz.prog.cellsOf 36)) = xs[1]? := hf 1 _ rfl
  rw [List.getElem?_eq_getElem (by rw [hlen]; exact (by decide : 1 < 6)), cellsM] at g1
  have g2 : DataW.trod enc Tryz.prog W base spare held m 36 (([c0, c1, c2, c3, c4, c5].drop 2).take (Tryz.prog.cellsOf 36)) = xs[2]? := hf 2 _ rfl
  rw [List.getElem?_eq_getElem (by rw [hlen]; exact (by decide : 2 < 6)), cellsM] at g2
  have g3 : DataW.trod enc Tryz.prog W base spare held m 3 (([c0, c1, c2, c3, c4, c5].drop 3).take (Tryz.prog.cellsOf 3)) = xs[3]? := hf 3 _ rfl
  rw [List.getElem?_eq_getElem (by rw [hlen]; exact (by decide : 3 < 6)), cellsI] at g3
  have g4 : DataW.trod enc Tryz.prog W base spare held m 3 (([c0, c1, c2, c3, c4, c5].drop 4).take (Tryz.prog.cellsOf 3)) = xs[4]? := hf 4 _ rfl
  rw [List.getElem?_eq_getElem (by rw [hlen]; exact (by decide : 4 < 6)), cellsI] at g4
  have g5 : DataW.trod enc Tryz.prog W base spare held m 31 (([c0, c1, c2, c3, c4, c5].drop 5).take (Tryz.prog.cellsOf 31)) = xs[5]? := hf 5 _ rfl
  rw [List.getElem?_eq_getElem (by rw [hlen]; exact (by decide : 5 < 6)), cellsW] at g5
  simp only [List.drop_zero, List.take_succ_cons, List.take_zero, List.drop_succ_cons] at g0 g1 g2 g3 g4 g5
  obtain ⟨a0, e0, _, w0⟩ := DataW.trod_int Tryz.underlying36 g0
  obtain ⟨a1, e1, _, w1⟩ := DataW.trod_int Tryz.underlying36 g1
  obtain ⟨a2, e2, _, w2⟩ := DataW.trod_int Tryz.underlying36 g2
  obtain ⟨a3, e3, _, w3⟩ := DataW.trod_int Tryz.underlying3 g3
  obtain ⟨a4, e4, _, w4⟩ := DataW.trod_int Tryz.underlying3 g4
  obtain ⟨a5, e5, _, w5⟩ := DataW.trod_int Tryz.underlying31 g5
  simp at e0 e1 e2 e3 e4 e5
  subst e0 e1 e2 e3 e4 e5
  exact ⟨⟨a0, a1, a2, a3, a4, a5⟩, rfl, w0, w1, w2, bounds_i64' w3, bounds_i64' w4, bounds_u64' w5⟩
set_option maxRecDepth 100000 in
theorem open_dls {v : Value} {d : DataW H} {p : List MemPlace} (hv : Value.okWide Tryz.prog W r b0 22 v) (h : DataW.Trod enc Tryz.prog W base (fun _ => true) held 22 v d p) :
  ∃ q cap l, v = .slice q (l : List Dl).length cap ∧ Lz W q l ∧ (∀ x ∈ l, x.ok) ∧ l.length ≤ cap ∧ cap ≤ maxLen ∧ (0 < cap → ∃ b off, q = some ⟨b, off, none⟩) := by
 obtain ⟨a0, len0, cap0, rfl⟩ := okWide_slice (P := Tryz.prog) Tryz.underlying22 hv
 obtain ⟨fuel, hf⟩ := h
 rcases open_slice Tryz.underlying22 hf with ⟨hcs, _⟩ | ⟨a, len, cap, m, n, D, Pl, hcs, _, hl, hm, hmm, hx, hr⟩
 ·simp [Value.cells] at hcs
  obtain ⟨rfl, rfl, rfl⟩ := hcs
  exact ⟨none, 0, [], rfl, fun i hi => by simp at hi, by simp, Nat.le_refl _, Nat.zero_le _, fun h => absurd h (by decide)⟩
 ·simp [Value.cells] at hcs
  obtain ⟨rfl, rfl, rfl⟩ := hcs
  simp only [if_true] at hmm
  subst hmm
  rw [cellsD] at hr
  haveI : Inhabited Dl := ⟨⟨0, 0, 0, 0, 0, 0⟩⟩
  obtain ⟨Z, hZ⟩ := choose_lt (α := Dl) (p := fun i z => W.cells? base (a.add (i * 6)) 6 = some (drow z).toList ∧ z.ok) (n := m) (fun i hi => by
   obtain ⟨cs', h1, h2⟩ := hr i hi
   obtain ⟨z, rfl, h3⟩ := open_dl (World.cells?_some h1).2.1 h2
   exact ⟨z, h1, h3⟩)
  refine ⟨some a, m, (List.range len0).map Z, by simp, ?_, ?_, by simp; omega, by omega, fun hp => ?_⟩
  ·intro i hi
   have hi' : i < len0 := by simpa using hi
   obtain ⟨hc, _⟩ := hZ i (by omega)
   obtain ⟨hc0, _⟩ := hZ 0 (by omega)
   obtain ⟨_, _, hcc0⟩ := World.cells?_some hc0
   obtain ⟨_, _, hcc⟩ := World.cells?_some hc
   have e1 : ((List.range len0).map Z)[i] = Z i := by simp
   rw [e1]
   obtain ⟨b, off, spot⟩ := a
   have hspot : spot = none := by
    have := hcc0 0 (by omega)
    simpa [Addr.add] using World.cell?_spot this
   subst hspot
   have g0 := hcc 0 (by omega)
   rw [add_mid, add_mid] at g0
   refine ⟨b, off, rfl, block_lt_of_cell (v := .int .u32 (Z i).ins) g0, ?_⟩
   intro j hj
   have g := hcc j hj
   rw [add_mid, add_mid] at g
   rw [g]
   simp
  ·intro x hx'
   obtain ⟨i, hi, rfl⟩ := List.mem_map.1 hx'
   exact (hZ i (by have := List.mem_range.1 hi; omega)).2
  ·obtain ⟨hc0, _⟩ := hZ 0 (by omega)
   obtain ⟨_, _, hcc0⟩ := World.cells?_some hc0
   obtain ⟨b, off, spot⟩ := a
   have hspot : spot = none := by
    have := hcc0 0 (by omega)
    simpa [Addr.add] using World.cell?_spot this
   subst hspot
   exact ⟨b, off, rfl⟩
end
theorem bulk_dls {H : Type} {enc : TypeId × Value → H} {W : World} {base b0 : Nat} {held : Bool} {r : Reach} {v : Value} {d : DataW H} {p : List MemPlace} (hv : Value.okWide Tryz.prog W r b0 22 v) (h : DataW.Trod enc Tryz.prog W base (fun _ => true) held 22 v d p) : ∀ q n c, v = .slice q n c → n ≤ Rows.uptoBulk d := by
 intro q n c hv'
 subst hv'
 obtain ⟨fuel, hf⟩ := h
 rcases open_slice Tryz.underlying22 hf with ⟨hcs, _⟩ | ⟨a, len, cap, m, n', D, Pl, hcs, _, hl, hm, hmm, hx, hr⟩
 ·simp [Value.cells] at hcs
  obtain ⟨rfl, rfl, rfl⟩ := hcs
  omega
 ·simp [Value.cells] at hcs
  obtain ⟨rfl, rfl, rfl⟩ := hcs
  have e := congrArg Prod.fst hx
  simp only at e
  subst e
  simp only [Rows.uptoBulk]
  have := all_len ((List.range n).map D)
  simp only [List.length_map, List.length_range] at this
  omega
end Go.Proofs.YtlhbgaiiehljpaaGreat.Ac
namespace Go.Proofs.YtlhbgaiiehljpaaGreat.clearingZero
open Go.ChangeShapes Go.WideShapes Go.ChangeAt Go.RowKit Go.Joins Go.Deep Go.Proofs.YtlhbgaiiehljpaaGreat.Ac
set_option linter.unusedVariables false
set_option maxRecDepth 100000
theorem lifted (os : Os) (started : os.Started) (H : Type) (enc : TypeId × Value → H) (F : Stop.Interp) :
  ReturnsInHanded {} Tryz.checked os 3 .any ((Rows.OpenSpec.upto Rows.clearingZeroSpec).pre6 enc Tryz.prog Tryz.f3 Rows.clearingZeroUptoRow.domain false) (((Rows.OpenSpec.upto Rows.clearingZeroSpec).at F).post enc Tryz.prog Tryz.f3 false true false false) := by
 refine returnsInHanded_of_cond (C := Tryz.checked) (s := Rows.OpenSpec.upto Rows.clearingZeroSpec) (k := Rows.uptoSmall) rfl own started (by kernel_rfl) Tryz.func3
  (OpenSpec.witness (enc := enc) (C := Tryz.checked) (s := Rows.OpenSpec.upto Rows.clearingZeroSpec) (k := Rows.uptoSmall) rfl false ⟨#[], #[.slice none 0 0], []⟩ 8 (by kernel_rfl) (by kernel_rfl) (by kernel_rfl)
   (x := ([.nil], [], [])) (by kernel_rfl) rfl (by kernel_rfl)) ?_
 intro W base args ds gs before hval0 hW _ hk _
 have hval : ∀ (j : Nat) t v, Tryz.f3.params[j]? = some t → args[j]? = some v → Value.okWide Tryz.prog W .any base t v := hval0
 have hW' := hW
 obtain ⟨p, q, hA0, hV, rfl, hfz, hnd⟩ := hW
 have hA : DataW.TrodAll enc Tryz.prog W 0 (fun _ => true) true Tryz.f3.params.toList args.toList ds p := hA0
 rw [Tryz.params3] at hA hval
 obtain ⟨v0, vs0, d0, ds0, p0, q0, hargs, rfl, rfl, h0, r0⟩ := trodAll_cons hA
 obtain ⟨rfl, rfl, rfl⟩ := trodAll_nil r0
 obtain rfl : args = #[v0] := by cases args; simp_all
 obtain ⟨rfl, rfl⟩ := trodVars_none hV
 have k0 := h0
 have lt0 : ∀ x ∈ p0, x.block < W.heap.size := by obtain ⟨m, hm⟩ := k0; exact DataW.trod_lt m _ _ _ hm
 have hlen := bulk_dls (hval 0 22 v0 rfl rfl) h0
 obtain ⟨a0, cap0, l0, rfl, hV0, hok0, hc0, hm0, hs0⟩ := open_dls (hval 0 22 v0 rfl rfl) h0
 clear hA0 hval0
 simp only [List.append_nil] at hk
 have h : Rows.uptoBulkAll [d0] ≤ 1048576 := of_decide_eq_true hk
 simp only [Rows.uptoBulkAll] at h
 have hn1 : l0.length ≤ 1048576 := by have := hlen _ _ _ rfl; omega
 refine (zero_some l0 a0 cap0 l0.length W hV0 hok0 rfl hn1).mono fun e W' ⟨he, bel⟩ => ?_
 subst he
 exact ⟨_, rfl, _, _, _, [], _, [], hW', trodAll_mk1 (shut_bool Tryz.underlying4 _), (trodAll_cons_mk (Below.trod laidOut (by kernel_rfl) (of_decide_eq_true (by kernel_rfl)) k0 bel lt0) trodAll_mk0), rfl, bel.frame _, fun h => by cases h⟩
/-- the statement -/
theorem proved : Rows.ClearingZeroUptoSaid :=
 OpenClaim.holds_of_cond 3 Tryz.f3 rfl rfl rfl rfl rfl rfl rfl ⟨rfl, rfl, rfl, rfl, rfl⟩ rfl rfl rfl rfl rfl (by kernel_rfl) Tryz.func3 (by kernel_rfl)
  (of_decide_eq_true (by kernel_rfl)) (by unfold Func.isWrapper; first | (rw [if_pos (by decide +kernel)]; kernel_rfl) | (rw [if_neg (by decide +kernel)]; exact ⟨rfl, rfl⟩))
  (fun os started H enc _ F => lifted os started H enc F)
end Go.Proofs.YtlhbgaiiehljpaaGreat.clearingZero
namespace Go.Proofs.YtlhbgaiiehljpaaGreat
theorem clearingZero_holds : Rows.ClearingZeroUptoSaid := clearingZero.proved
#print axioms clearingZero_holds
end Go.Proofs.YtlhbgaiiehljpaaGreat
