/-
  MessageUnpacks: the walk; frames that came in.
-/
import Derived.Test.YtnhipamajelalaaMgT
import Derived.Test.YtnhipamajelalaaMgM
namespace Go.Proofs.Ytnhipamajelalaa
open Go.ChangeShapes Go.WideShapes Go.ChangeAt Go.RowKit Go.Joins Go.Maps Go.Deep Go.Lib
set_option linter.unusedVariables false
set_option linter.unusedSimpArgs false

section
variable {H : Type} {enc : TypeId × Value → H} {W : World} {base b0 : Nat} {spare : Nat → Bool} {held : Bool} {r : Reach}
/-- a frame that came in. -/
theorem open_frm {v : Value} {d : DataW H} {p : List MemPlace} (hv : Value.okWide Try.prog W r b0 30 v) (h : DataW.Trod enc Try.prog W base spare held 30 v d p) :
    ∃ k a0 a1 a2 a3 a4 a5 a6 : Int, v = .agg (frV k [a0, a1, a2, a3, a4, a5, a6]) ∧ (0 ≤ k ∧ k < 256) ∧ ∀ x ∈ [a0, a1, a2, a3, a4, a5, a6], Wd x := by
  obtain ⟨cs, rfl, hsz⟩ := okWide_struct Try.underlying30 hv
  rw [cells30] at hsz
  obtain ⟨fuel, hf⟩ := h
  obtain ⟨y0, y1, n, hx, _, h0, h1⟩ := trod_struct2 Try.underlying30 hf
  obtain ⟨l⟩ := cs
  match l, hsz with
  | [c0, c1, c2, c3, c4, c5, c6, c7], _ =>
    simp only [Value.cells, cells5, cells28, List.drop_zero, List.take_succ_cons, List.take_zero, List.drop_succ_cons] at h0 h1
    obtain ⟨k, e0, _, wk⟩ := DataW.trod_int Try.underlying5 h0
    obtain ⟨xs, m, _, _, _, hn, hel⟩ := DataW.trod_array Try.underlying28 h1
    have g : ∀ i, i < 7 → ∃ n : Int, (([c1, c2, c3, c4, c5, c6, c7].drop i).take 1) = [.int .u64 n] ∧ Wd n := by
      intro i hi
      have hh := hel i hi
      rw [cells22, List.getElem?_eq_getElem (by omega), Nat.mul_one] at hh
      obtain ⟨a, ea, _, wa⟩ := DataW.trod_int Try.underlying22 hh
      have := bounds_u64 wa
      exact ⟨a, ea, by unfold Wd; omega⟩
    obtain ⟨w0, e1, b1⟩ := g 0 (by decide)
    obtain ⟨w1, e2, b2⟩ := g 1 (by decide)
    obtain ⟨w2, e3, b3⟩ := g 2 (by decide)
    obtain ⟨w3, e4, b4⟩ := g 3 (by decide)
    obtain ⟨w4, e5, b5⟩ := g 4 (by decide)
    obtain ⟨w5, e6, b6⟩ := g 5 (by decide)
    obtain ⟨w6, e7, b7⟩ := g 6 (by decide)
    have bk := bounds_u8 wk
    simp at e0 e1 e2 e3 e4 e5 e6 e7
    subst e0 e1 e2 e3 e4 e5 e6 e7
    refine ⟨k, w0, w1, w2, w3, w4, w5, w6, rfl, ⟨by omega, by omega⟩, ?_⟩
    intro x hx
    simp only [List.mem_cons, List.not_mem_nil, or_false] at hx
    rcases hx with rfl | rfl | rfl | rfl | rfl | rfl | rfl <;> assumption
end
set_option maxHeartbeats 2000000 in
set_option maxRecDepth 100000 in
theorem unpacks_walk (k a0 a1 a2 a3 a4 a5 a6 : Int) (hk : 0 ≤ k ∧ k < 256) (ha : ∀ x ∈ [a0, a1, a2, a3, a4, a5, a6], Wd x) (w : World) : Calls Try.prog 4 #[.agg (frV k [a0, a1, a2, a3, a4, a5, a6])] w fun e w' => e = .returned (.bool true) ∧ Below w.heap.size w w' := by
  have PA := hid (fun w => unpack_any k a0 a1 a2 a3 a4 a5 a6 hk.1 hk.2 ha w)
  have RA := hid (fun w => runpack_any k a0 a1 a2 a3 a4 a5 a6 hk.1 hk.2 ha w)
  have HI := hid (heap_alloc_new w (.cells (frV k [a0, a1, a2, a3, a4, a5, a6]) 30))
  have hfa : frV k [a0, a1, a2, a3, a4, a5, a6] = #[.int .u8 k, .int .u64 a0, .int .u64 a1, .int .u64 a2, .int .u64 a3, .int .u64 a4, .int .u64 a5, .int .u64 a6] := rfl
  obtain ⟨Y, hY⟩ : ∃ y, upI k [a0, a1, a2, a3, a4, a5, a6] = y := ⟨_, rfl⟩
  obtain ⟨E, hE⟩ : ∃ y, upE k [a0, a1, a2, a3, a4, a5, a6] = y := ⟨_, rfl⟩
  rw [hfa, hY, hE] at PA RA
  rw [hfa]
  have q := eqI_yes Y.ki Y.co Y.id Y.tg Y.me Y.si Y.ty Y.pr Y.qt Y.pe Y.en Y.ki Y.co Y.id Y.tg Y.me Y.si Y.ty Y.pr Y.qt Y.pe Y.en rfl
  unfold Inp.v iV at PA RA
  unfold iV at q
  clear hY hE hfa hk ha
  go_enter Try.func4, Try.ntmps4
  go_wp2_with (first | (go_at_call 8; refine (PA.out _).mono ?_; rintro e w2 ⟨rfl, hb⟩; have HB2 := hid hb; clear hb; refine Hid.out ?_))
  have HBW := hid (btr (ball w (.cells (frV k [a0, a1, a2, a3, a4, a5, a6]) 30)) HB2.out)
  have HI2 := hid (show (w2.alloc (.cells Y.v 27)).heap[w.heap.size]? = some (.cells (frV k [a0, a1, a2, a3, a4, a5, a6]) 30 (0, 0)) from row_on (row_on HI.out HB2.out) (ball _ _))
  unfold Inp.v iV at HI2
  obtain ⟨c0, c1, c2, c3, c4, c5, c6, c7⟩ := cells_F HI2.out
  clear HI HB2 PA
  refine hid ?_
  go_wp2_with (first | (go_at_call 9; refine (RA.out _).mono ?_; rintro e w3 ⟨rfl, hb⟩; have HB3 := hid hb; clear hb; refine Hid.out ?_))
  have HR := hid (show (w3.alloc (.cells Y.v 27)).heap[w2.heap.size]? = some (.cells Y.v 27 (0, 0)) from row_on (row_on (heap_alloc_new _ _) HB3.out) (ball _ _))
  have HBE := hid (show Below w.heap.size w (w3.alloc (.cells Y.v 27)) from btr (btr (btr HBW.out (ball _ _)) HB3.out) (ball _ _))
  unfold Inp.v iV at HR HBE
  obtain ⟨d0, d1, d2, d3, d4, d5, d6, d7, d8, d9, d10⟩ := cells_I HR.out
  clear HB3 c0 c1 c2 c3 c4 c5 c6 c7 HI2 HBW HR
  refine hid ?_
  go_wp2
  go_ret
  exact ⟨by simp, HBE.out⟩
end Go.Proofs.Ytnhipamajelalaa
