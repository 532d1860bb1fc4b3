/-
  placed.
-/
import Derived.Test.YthidnipmkffilaaIyH
namespace Go.Proofs.Ythidnipmkffilaa
open Go.RowKit Go.Deep
set_option linter.unusedVariables false
set_option linter.unusedSimpArgs false
set_option maxHeartbeats 8000000
set_option maxRecDepth 100000
/-- the slots from a place on are those of a table. -/
structure Sq (w : World) (S n : Nat) (T : Ix.Tab) (j : Nat) (cs : Array Value) : Prop where
  row : w.heap[S]? = some (.cells cs 64 (0, 0))
  sz : cs.size = n * 2
  at' : ∀ i, j ≤ i → i < n → cs[i * 2]? = some (.bool (eU (T i))) ∧ cs[i * 2 + 1]? = some (.int .u64 (eK (T i)))
theorem Sl.sq {w : World} {S n : Nat} {T : Ix.Tab} (h : Sl w S n T n) : ∃ cs, Sq w S n T 0 cs := by
  obtain ⟨cs, h1, h2, _, h3⟩ := h
  exact ⟨cs, h1, by omega, fun i _ hi => h3 i hi hi⟩
theorem Sq.next {w : World} {S n : Nat} {T : Ix.Tab} {j : Nat} {cs : Array Value} (h : Sq w S n T j cs) (hj : j < n) (a b : Value) :
    ∃ cs', Sq ((w.setCell ⟨S, j * 2, none⟩ a).setCell ⟨S, j * 2 + 1, none⟩ b) S n T (j + 1) cs' := by
  refine ⟨_, heap_setCell_same _ S _ _ 64 _ (heap_setCell_same w S _ _ 64 _ h.row), by simpa using h.sz, fun i hi hn => ?_⟩
  obtain ⟨x, y⟩ := h.at' i (by omega) hn
  constructor
  · rw [Array.getElem?_setIfInBounds_ne (by omega), Array.getElem?_setIfInBounds_ne (by omega)]; exact x
  · rw [Array.getElem?_setIfInBounds_ne (by omega), Array.getElem?_setIfInBounds_ne (by omega)]; exact y
theorem placed_any {W : World} {X P R Q n room : Nat} {T : Ix.Tab} (h : Pa W X P R Q n room T) :
    Calls Try.prog 16 #[.agg #[.pointer (some ⟨X, 0, none⟩), .pointer (some ⟨R, 0, none⟩)]] W fun e w' => e = .returned (.bool true) ∧ Below W.heap.size W w' := by
  have hb := ball W (.cells #[.pointer (some ⟨X, 0, none⟩), .pointer (some ⟨R, 0, none⟩)] 25)
  have hr := heap_alloc_new W (.cells #[.pointer (some ⟨X, 0, none⟩), .pointer (some ⟨R, 0, none⟩)] 25)
  obtain ⟨V, hV⟩ : ∃ V, W.alloc (.cells #[.pointer (some ⟨X, 0, none⟩), .pointer (some ⟨R, 0, none⟩)] 25) = V := ⟨_, rfl⟩
  rw [hV] at hb hr
  have hmost := h.lx.most
  have HPA := hid (h.on hb)
  have HB := hid hb
  have HV := hid hV
  have HCE := hid (show ∀ U, Below V.heap.size V U → U.cell? ⟨W.heap.size, 0, none⟩ = some (.pointer (some ⟨X, 0, none⟩)) ∧ U.cell? ⟨W.heap.size, 1, none⟩ = some (.pointer (some ⟨R, 0, none⟩)) ∧ U.cell? ⟨R, 2, none⟩ = some (.slice (some ⟨Q, 0, none⟩) n n) from fun U hU => by
    have a := row_on hr hU
    exact ⟨row_cell a 0, row_cell a 1, (HPA.out.on hU).rx.cells.2.2⟩)
  have HQC := hid (show ∀ U, Below V.heap.size V U → ∀ i, i < n → U.cell? ⟨Q, i * 3, none⟩ = some (.bool (eU (T i))) ∧ U.cell? ⟨Q, i * 3 + 1, none⟩ = some (.int .u64 (eK (T i))) from fun U hU i hi => by
    obtain ⟨a, b, _⟩ := (HPA.out.on hU).rx.pl.cell hi
    exact ⟨a, b⟩)
  have HSL := hid (show ∀ U, Below V.heap.size V U → Calls Try.prog 12 #[.pointer (.some ⟨X, 0, none⟩)] U fun e w' => ∃ S cs, e = .returned (.slice (.some ⟨S, 0, none⟩) n n) ∧ U.heap.size ≤ S ∧ Sq w' S n T 0 cs ∧ Below U.heap.size U w' from fun U hU =>
    (slots_any (HPA.out.on hU).lx).mono fun e w' ⟨S, h1, h2, h3, h4⟩ => by
      obtain ⟨cs, h5⟩ := h3.sq
      exact ⟨S, cs, h1, h2, h5, h4⟩)
  obtain ⟨i0, hi, hz0, hz1, hz2⟩ := info_parts info64all
  have HI := hid (And.intro hi (And.intro hz0 (And.intro hz1 hz2)))
  have n0 : (0 : Int) ≤ (n : Int) := by omega
  clear h hb hr hV hi hz0 hz1 hz2
  go_enter Try.func16, Try.ntmps16
  go_upto_region 1 with fail
  have e0 := HV.out
  rw [e0]
  clear e0
  go_wp2_with fail
  go_loopw [3] (fun rv wr => ∃ r : Nat, r ≤ 2 ∧ rv = .int .i64 r ∧ Hid (Below V.heap.size V wr)) (fun rv _ => 2 - (intOf rv).toNat)
  case atStart => exact ⟨0, by omega, rfl, hid (Below.refl _ _)⟩
  case round =>
    obtain ⟨r, hr2, rfl, HR⟩ := hrel
    by_cases hr : r < 2
    · have r1 : (r : Int) < 2 := by omega
      obtain ⟨c0, c1, c2⟩ := HCE.out wr HR.out
      go_upto_region 5 with (go_at_call 12; with_reducible refine (HSL.out wr HR.out).mono ?_; rintro e w1 ⟨S, cs0, rfl, hS, hq, hb1⟩; have HS := hid hS; have HSQ := hid hq; have HB1 := hid (btr HR.out hb1); obtain ⟨d0, d1, d2⟩ := HCE.out w1 (btr HR.out hb1); clear hS hq hb1)
      clear c0 c1 c2
      go_upto_region 7 with fail
      clear d0 d1 d2
      have HSV := hid (show V.heap.size ≤ S from Nat.le_trans HR.out.size HS.out)
      go_wp2_with fail
      go_loopw [5] (fun jv w2 => ∃ (j : Nat) (cs : Array Value), j ≤ n ∧ jv = .int .i64 j ∧ Hid (Sq w2 S n T j cs) ∧ Hid (Below V.heap.size V w2)) (fun jv _ => n - (intOf jv).toNat)
      case atStart => exact ⟨0, cs0, Nat.zero_le _, rfl, HSQ, HB1⟩
      case round =>
        clear HSQ HB1
        obtain ⟨j, cs, hjn, rfl, HSQ, HB2⟩ := hrel
        by_cases hj : j < n
        · obtain ⟨d0, d1, d2⟩ := HCE.out _ HB2.out
          obtain ⟨q0, q1⟩ := HQC.out _ HB2.out j hj
          have s0 := row_cell HSQ.out.row (j * 2)
          have s1 := row_cell HSQ.out.row (j * 2 + 1)
          obtain ⟨t0, t1⟩ := HSQ.out.at' j (Nat.le_refl _) hj
          rw [t0] at s0
          rw [t1] at s1
          obtain ⟨u, hu⟩ : ∃ u, eU (T j) = u := ⟨_, rfl⟩
          obtain ⟨kk, hkk⟩ : ∃ u, eK (T j) = u := ⟨_, rfl⟩
          rw [hu] at q0 s0
          rw [hkk] at q1 s1
          have j0 : (0 : Int) ≤ (j : Int) := by omega
          have j1 : (j : Int) < (n : Int) := by omega
          have ct : ((j : Int)).toNat = j := by omega
          have uu : (u != u) = false := by simp
          have f0 := frozen_of_row _ S (j * 2) _ _ HSQ.out.row
          have f1 := frozen_of_row _ S (j * 2 + 1) _ _ HSQ.out.row
          have HNX := hid (show ∀ N, (∃ cs', Sq (((wr.drewN N).setCell ⟨S, j * 2, none⟩ (.bool true)).setCell ⟨S, j * 2 + 1, none⟩ (.int .u64 77)) S n T (j + 1) cs') ∧ Below V.heap.size V (((wr.drewN N).setCell ⟨S, j * 2, none⟩ (.bool true)).setCell ⟨S, j * 2 + 1, none⟩ (.int .u64 77)) from fun N => by
            have hsq : Sq (wr.drewN N) S n T j cs := ⟨HSQ.out.row, HSQ.out.sz, HSQ.out.at'⟩
            refine ⟨hsq.next hj _ _, ?_⟩
            have k1 := (Kp.setCell (B := fun b => b = S) (w := wr.drewN N) (g := S) rfl (j * 2) (.bool true)).trans (Kp.setCell (B := fun b => b = S) rfl (j * 2 + 1) (.int .u64 77))
            have hb := btr HB2.out (bdrN wr N)
            exact hb.trans (k1.below hb.size (fun b hb e => by have := HSV.out; omega)))
          clear t0 t1 hu hkk
          go_upto_region 10 with fail
          cases u with
          | true =>
            go_big_quiet (fail)
            go_wp2
            go_roundw
            case rel => obtain ⟨⟨cs', a⟩, b⟩ := HNX.out nq; exact ⟨j + 1, cs', by omega, by go_num, hid a, hid b⟩
            case measure => first | (simp [intOf]; done) | (simp [intOf]; omega)
          | false =>
            go_big_quiet (fail)
            go_wp2
            go_roundw
            case rel => obtain ⟨⟨cs', a⟩, b⟩ := HNX.out nq; exact ⟨j + 1, cs', by omega, by go_num, hid a, hid b⟩
            case measure => first | (simp [intOf]; done) | (simp [intOf]; omega)
        · obtain rfl : j = n := by omega
          obtain ⟨hi, hz0, hz1, hz2⟩ := HI.out
          have HOW := hid (show (wr.alloc (.cells #[.bool false, .int .u64 0] 64)).ownsRow V.heap.size 64 2 (.slice (some ⟨S, 0, none⟩) j j) j cs.toList from
            ⟨by rw [Array.length_toList]; exact HSQ.out.sz, .inr ⟨S, j, cs, rfl, HSV.out, row_on HSQ.out.row (ball _ _), Nat.le_refl _, by unfold maxLen; omega, HSQ.out.sz, by rw [← HSQ.out.sz, ← Array.length_toList, List.take_length]⟩⟩)
          have HCN := hid (show ∀ jj u, ([.bool false, .int .u64 0] : List Value)[jj]? = some u → (wr.alloc (.cells #[.bool false, .int .u64 0] 64)).cell? ((⟨wr.heap.size, 0, none⟩ : Addr).add jj) = some u from fun jj u hu => by
            have e0 : (⟨wr.heap.size, 0, none⟩ : Addr).add jj = ⟨wr.heap.size, 0 + jj, none⟩ := by unfold Addr.add; split <;> simp_all
            rw [e0, Nat.zero_add, World.cell?_alloc_new]
            simpa using hu)
          have HBA := hid (show V.heap.size ≤ (wr.alloc (.cells #[.bool false, .int .u64 0] 64)).heap.size from Nat.le_trans HB2.out.size (ball wr _).size)
          clear hi hz0 hz1 hz2
          go_wp2_with (at_builtin; refine wpList_append_own _ (by rfl) (.tmp 64) (.tmp 66) 29 (by rfl) V.heap.size 64 i0 _ 2 16 Try.underlying29 HI.out.1 HI.out.2.1 HI.out.2.2.1 HI.out.2.2.2 rfl (by decide) _ j cs.toList (by rfl) HOW.out ⟨wr.heap.size, 0, none⟩ 1 1 [.bool false, .int .u64 0] (by rfl) rfl HCN.out (by intro u hu; simp at hu; rcases hu with rfl | rfl <;> rfl) (by unfold maxLen; omega) (by omega) HBA.out ?_; intro v' w3 ho3 hg3 _; have HB3 := hid (show Below V.heap.size V w3 from ((HB2.out.trans ((ball wr (.cells #[.bool false, .int .u64 0] 64)).mono HB2.out.size)).grown hg3 HBA.out (fun b hb => (World.ownsRow.lt HOW.out b hb).1))); clear ho3 hg3)
          go_roundw
          case rel => exact ⟨r + 1, by omega, by go_num, HB3⟩
          case measure => first | (simp [intOf]; done) | (simp [intOf]; omega)
    · obtain rfl : r = 2 := by omega
      go_wp2
      go_ret
      exact ⟨rfl, btr HB.out HR.out⟩
end Go.Proofs.Ythidnipmkffilaa
