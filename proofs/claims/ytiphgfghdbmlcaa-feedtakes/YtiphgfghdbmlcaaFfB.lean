/-
  Written over; new publishers.
-/
import Derived.Test.YtiphgfghdbmlcaaFfA
import Derived.Test.YtiphgfghdbmlcaaFeW
namespace Go.Proofs.Ytiphgfghdbmlcaa
open Go.RowKit Go.Deep
set_option linter.unusedVariables false
set_option linter.unusedSimpArgs false
set_option maxHeartbeats 4000000
set_option maxRecDepth 100000
theorem Kp.grown {F : Nat → Prop} {w W U : World} {r : Option Nat} (h : Kp F w W) (hg : W.grownBy U r) (hr : ∀ j, r = some j → F j) : Kp F w U :=
  ⟨hg.os.trans h.os, hg.tape.trans h.tape, hg.output.trans h.output, Nat.le_trans h.size hg.size, fun g hgl hF => (hg.block g (Nat.lt_of_lt_of_le hgl h.size) (fun e => hF (hr g e.symm))).trans (h.obj g hgl hF)⟩
theorem rdl_new (U : World) (x : Lv) : ∀ ad, some (⟨U.heap.size, 0, none⟩ : Addr) = some ad → ∀ j u, (lvc [x])[j]? = some u → (U.alloc (.cells #[.int .i64 x.pr, .int .u64 x.qt, .int .i64 x.ct] 89)).cell? (ad.add j) = some u := by
  intro ad e j u hj
  injection e with e
  subst e
  rw [Addr.add_lit, Nat.zero_add, row_cell (World.alloc_heap_new _ _)]
  simpa [lvc] using hj
theorem own_blk {base : Nat} {w : World} {e : TypeId} {size n c : Nat} {p : Option Addr} {xs : List Value} (h : w.ownsRow base e size (.slice p n c) n xs) {j : Nat} (hj : (Value.slice p n c).ownBlock = some j) : OfP p j := by
  obtain ⟨_, ⟨e, _⟩ | ⟨g', c', cur, e, _⟩⟩ := h
  · rw [e] at hj; cases hj
  · have e5 := (Value.slice.inj e).1
    rw [e] at hj; cases hj
    exact e5
/-- what stands while a picture is written over. -/
structure Wp (w : World) (q1 : Option Addr) (n1 d1 : Nat) (q2 : Option Addr) (n2 d2 : Nat) (R : Nat) (sq : Int) (b : Nat) (wr : World) : Prop where
  o1 : ∃ xs, wr.ownsRow b 89 3 (.slice q1 n1 d1) n1 xs
  o2 : ∃ xs, wr.ownsRow b 89 3 (.slice q2 n2 d2) n2 xs
  r : wr.heap[R]? = some (.cells #[.int .u64 sq, .slice q1 n1 d1, .slice q2 n2 d2] 30 (0, 0))
  k : Kp (fun g => OfP q1 g ∨ OfP q2 g) w wr
theorem Wp.set1 {w : World} {q1 : Option Addr} {n1 d1 : Nat} {q2 : Option Addr} {n2 d2 : Nat} {R : Nat} {sq : Int} {b : Nat} {wr : World} (h : Wp w q1 n1 d1 q2 n2 d2 R sq b wr) (ap : ∀ g, OfP q1 g → ¬ OfP q2 g) {g k : Nat} (hg : OfP q1 g) (hk : k < n1 * 3) (v : Value) : Wp w q1 n1 d1 q2 n2 d2 R sq b (wr.setCell ⟨g, k, none⟩ v) := by
  obtain ⟨xs, hx⟩ := h.o1
  obtain ⟨ys, hy⟩ := h.o2
  subst hg
  obtain ⟨cur, ec⟩ := own_ty hx rfl
  exact ⟨⟨_, own_setc hx hk⟩, ⟨ys, own_same hy (fun j hj => heap_setCell_other _ _ _ _ (fun e => ap g (OfP.mk g) (by have e' : j = g := e; rw [← e']; exact own_blk hy hj)))⟩, set_oth _ h.r (row_ne h.r ec (by decide)), h.k.trans (Kp.set _ _ _ _) (fun j _ e => .inl (by rw [show j = g from e]; exact OfP.mk g))⟩
theorem Wp.set2 {w : World} {q1 : Option Addr} {n1 d1 : Nat} {q2 : Option Addr} {n2 d2 : Nat} {R : Nat} {sq : Int} {b : Nat} {wr : World} (h : Wp w q1 n1 d1 q2 n2 d2 R sq b wr) (ap : ∀ g, OfP q1 g → ¬ OfP q2 g) {g k : Nat} (hg : OfP q2 g) (hk : k < n2 * 3) (v : Value) : Wp w q1 n1 d1 q2 n2 d2 R sq b (wr.setCell ⟨g, k, none⟩ v) := by
  obtain ⟨xs, hx⟩ := h.o1
  obtain ⟨ys, hy⟩ := h.o2
  subst hg
  obtain ⟨cur, ec⟩ := own_ty hy rfl
  exact ⟨⟨xs, own_same hx (fun j hj => heap_setCell_other _ _ _ _ (fun e => ap g (by have e' : j = g := e; rw [← e']; exact own_blk hx hj) (OfP.mk g)))⟩, ⟨_, own_setc hy hk⟩, set_oth _ h.r (row_ne h.r ec (by decide)), h.k.trans (Kp.set _ _ _ _) (fun j _ e => .inr (by rw [show j = g from e]; exact OfP.mk g))⟩
theorem Wp.new {w : World} {q1 : Option Addr} {n1 d1 : Nat} {q2 : Option Addr} {n2 d2 : Nat} {R : Nat} {sq : Int} {b : Nat} {wr U : World} (h : Wp w q1 n1 d1 q2 n2 d2 R sq b wr) (hb : Below wr.heap.size wr U) : Wp w q1 n1 d1 q2 n2 d2 R sq b U := by
  obtain ⟨xs, hx⟩ := h.o1
  obtain ⟨ys, hy⟩ := h.o2
  exact ⟨⟨xs, own_on hx hb⟩, ⟨ys, own_on hy hb⟩, row_on h.r hb, h.k.trans (Kp.of (fun _ => False) hb) (fun _ _ h => h.elim)⟩
theorem wipe_any (sq : Int) (b : Nat) (q1 q2 : Option Addr) (n1 n2 d1 d2 : Nat) (xs ys : List Value) (w : World) (h1 : w.ownsRow b 89 3 (.slice q1 n1 d1) n1 xs) (h2 : w.ownsRow b 89 3 (.slice q2 n2 d2) n2 ys) (ap : ∀ g, OfP q1 g → ¬ OfP q2 g) (b1 : n1 * 24 + 24 ≤ 140737488355328) (b2 : n2 * 24 + 24 ≤ 140737488355328) (hbs : b ≤ w.heap.size) :
    Calls Try.prog 14 #[.agg #[.int .u64 sq, .slice q1 n1 d1, .slice q2 n2 d2]] w fun e w' => e = .returned (.tuple #[]) ∧ Kp (fun g => OfP q1 g ∨ OfP q2 g) w w' := by
  obtain ⟨R, hR⟩ : ∃ R, w.heap.size = R := ⟨_, rfl⟩
  obtain ⟨W, hW⟩ : ∃ W, w.alloc (.cells #[.int .u64 sq, .slice q1 n1 d1, .slice q2 n2 d2] 30) = W := ⟨_, rfl⟩
  have hb0 : Below w.heap.size w W := by rw [← hW]; exact ball _ _
  have ST := hid (show Wp w q1 n1 d1 q2 n2 d2 R sq b W from ⟨⟨xs, own_on h1 hb0⟩, ⟨ys, own_on h2 hb0⟩, by rw [← hW, ← hR]; exact World.alloc_heap_new _ _, Kp.of _ hb0⟩)
  have hc1 := own_cap h1
  have hc2 := own_cap h2
  have mc1 := hc1.2.1
  have mc2 := hc2.2.1
  have lc1 := hc1.1
  have lc2 := hc2.1
  unfold maxLen at mc1 mc2
  have HAP := hid ap
  have HW := hid hW
  have HR := hid hR
  have HBS := hid hbs
  clear h1 h2 ap hb0 hW hR hc1 hc2 hbs
  go_enter Try.func14, Try.ntmps14
  go_upto_region 1 with fail
  rw [HW.out, HR.out]
  go_wp2
  go_loopw [2] (fun iv wr => ∃ i : Nat, i ≤ n1 ∧ iv = .int .i64 i ∧ Hid (Wp w q1 n1 d1 q2 n2 d2 R sq b wr)) (fun iv _ => n1 - (intOf iv).toNat)
  case atStart => exact ⟨0, by omega, rfl, ST.out⟩
  case round =>
    obtain ⟨i, hi, rfl, HC⟩ := hrel
    have rk := row_cell HC.out.r 1
    by_cases hlt : i < n1
    · obtain ⟨zs, hz⟩ := HC.out.o1
      obtain ⟨g, cur, eq, hg1, hg2, hg3, hg4, hg5⟩ := own_at hz (by omega)
      subst eq
      have l0 : i * 3 < cur.size := by omega
      have l1 : i * 3 + 1 < cur.size := by omega
      have l2 : i * 3 + 2 < cur.size := by omega
      have z0 : wr.cell? ⟨g, i * 3, none⟩ = some cur[i * 3] := by rw [row_cell hg2]; exact Array.getElem?_eq_getElem l0
      have z1 : wr.cell? ⟨g, i * 3 + 1, none⟩ = some cur[i * 3 + 1] := by rw [row_cell hg2]; exact Array.getElem?_eq_getElem l1
      have z2 : wr.cell? ⟨g, i * 3 + 2, none⟩ = some cur[i * 3 + 2] := by rw [row_cell hg2]; exact Array.getElem?_eq_getElem l2
      obtain ⟨u0, hu0⟩ : ∃ u, cur[i * 3] = u := ⟨_, rfl⟩
      obtain ⟨u1, hu1⟩ : ∃ u, cur[i * 3 + 1] = u := ⟨_, rfl⟩
      obtain ⟨u2, hu2⟩ : ∃ u, cur[i * 3 + 2] = u := ⟨_, rfl⟩
      rw [hu0] at z0
      rw [hu1] at z1
      rw [hu2] at z2
      have f0 := row_frz hg2 (i * 3)
      have f1 := row_frz hg2 (i * 3 + 1)
      have f2 := row_frz hg2 (i * 3 + 2)
      have i0 : (0 : Int) ≤ (i : Int) := by omega
      have i1 : (i : Int) < (n1 : Int) := by omega
      have NX := hid (((HC.out.set1 HAP.out (OfP.mk g) (show i * 3 < n1 * 3 by omega) (.int .i64 4711)).set1 HAP.out (OfP.mk g) (show i * 3 + 1 < n1 * 3 by omega) (.int .u64 0)).set1 HAP.out (OfP.mk g) (show i * 3 + 2 < n1 * 3 by omega) (.int .i64 0))
      clear hz hg1 hg2 hg5 l0 l1 l2 hu0 hu1 hu2
      unfold maxLen at hg4
      go_wp2
      go_roundw
      case rel => exact ⟨i + 1, by omega, by go_num, NX.out⟩
      case measure => simp [intOf]; omega
    · go_upto_region 5 with fail
      have ST2 := HC
      clear HC hi hlt
      obtain ⟨V1, hV1⟩ : ∃ V, wr = V := ⟨_, rfl⟩
      subst hV1
      go_wp2
      go_loopw [3] (fun iv wr => ∃ i : Nat, i ≤ n2 ∧ iv = .int .i64 i ∧ Hid (Wp w q1 n1 d1 q2 n2 d2 R sq b wr)) (fun iv _ => n2 - (intOf iv).toNat)
      case atStart => exact ⟨0, by omega, rfl, ST2.out⟩
      case round =>
        obtain ⟨i, hi, rfl, HC⟩ := hrel
        have rk := row_cell HC.out.r 2
        by_cases hlt : i < n2
        · obtain ⟨zs, hz⟩ := HC.out.o2
          obtain ⟨g, cur, eq, hg1, hg2, hg3, hg4, hg5⟩ := own_at hz (by omega)
          subst eq
          have l0 : i * 3 < cur.size := by omega
          have l1 : i * 3 + 1 < cur.size := by omega
          have l2 : i * 3 + 2 < cur.size := by omega
          have z0 : wr.cell? ⟨g, i * 3, none⟩ = some cur[i * 3] := by rw [row_cell hg2]; exact Array.getElem?_eq_getElem l0
          have z1 : wr.cell? ⟨g, i * 3 + 1, none⟩ = some cur[i * 3 + 1] := by rw [row_cell hg2]; exact Array.getElem?_eq_getElem l1
          have z2 : wr.cell? ⟨g, i * 3 + 2, none⟩ = some cur[i * 3 + 2] := by rw [row_cell hg2]; exact Array.getElem?_eq_getElem l2
          obtain ⟨u0, hu0⟩ : ∃ u, cur[i * 3] = u := ⟨_, rfl⟩
          obtain ⟨u1, hu1⟩ : ∃ u, cur[i * 3 + 1] = u := ⟨_, rfl⟩
          obtain ⟨u2, hu2⟩ : ∃ u, cur[i * 3 + 2] = u := ⟨_, rfl⟩
          rw [hu0] at z0
          rw [hu1] at z1
          rw [hu2] at z2
          have f0 := row_frz hg2 (i * 3)
          have f1 := row_frz hg2 (i * 3 + 1)
          have f2 := row_frz hg2 (i * 3 + 2)
          have i0 : (0 : Int) ≤ (i : Int) := by omega
          have i1 : (i : Int) < (n2 : Int) := by omega
          have NX := hid (((HC.out.set2 HAP.out (OfP.mk g) (show i * 3 < n2 * 3 by omega) (.int .i64 4712)).set2 HAP.out (OfP.mk g) (show i * 3 + 1 < n2 * 3 by omega) (.int .u64 0)).set2 HAP.out (OfP.mk g) (show i * 3 + 2 < n2 * 3 by omega) (.int .i64 0))
          clear hz hg1 hg2 hg5 l0 l1 l2 hu0 hu1 hu2
          unfold maxLen at hg4
          go_wp2
          go_roundw
          case rel => exact ⟨i + 1, by omega, by go_num, NX.out⟩
          case measure => simp [intOf]; omega
        · go_upto_region 9 with fail
          have r1 := row_cell HC.out.r 1
          have W3 := hid (HC.out.new (ball wr (.cells #[.int .i64 4713, .int .u64 0, .int .i64 0] 89)))
          obtain ⟨xs9, hx9⟩ := W3.out.o1
          have HX9 := hid hx9
          have RN := hid (rdl_new wr ⟨4713, 0, 0⟩)
          have HLN := hid (lvc_len [⟨4713, 0, 0⟩])
          have BZ := hid (show b ≤ (wr.alloc (.cells #[.int .i64 4713, .int .u64 0, .int .i64 0] 89)).heap.size from Nat.le_trans HBS.out (W3.out.k.size))
          clear hx9
          go_upto_region 10 with (at_builtin; refine wpList_app_rd (by rfl) (.tmp 29) (.tmp 31) 28 89 _ 3 24 (by rfl) Try.underlying28 infoL3 rfl (by decide) b _ n1 xs9 (by rfl) HX9.out (some ⟨wr.heap.size, 0, none⟩) 1 1 (lvc [⟨4713, 0, 0⟩]) (by rfl) (fun e => by cases e) HLN.out RN.out (lvc_one _) (by unfold maxLen; omega) (by omega) BZ.out ?_; intro v' w5 hown hgrow; have HG5 := hid hgrow; obtain ⟨pv, cv, rfl⟩ := own_form hown; clear hown hgrow)
          have W5 := hid (show Kp (fun g => OfP q1 g ∨ OfP q2 g) w w5 from W3.out.k.grown HG5.out (fun j hj => .inl (own_blk HX9.out hj)))
          have R5 := hid (show w5.heap[R]? = some (.cells #[.int .u64 sq, .slice q1 n1 d1, .slice q2 n2 d2] 30 (0, 0)) from (HG5.out.block R (row_lt W3.out.r) (by
            intro e
            obtain ⟨cc, ec⟩ := own_ty HX9.out e.symm
            exact absurd rfl (row_ne ec W3.out.r (by decide)))).trans W3.out.r)
          have O5 := hid (show ∃ ys, w5.ownsRow b 89 3 (.slice q2 n2 d2) n2 ys from by
            obtain ⟨ys, hy⟩ := W3.out.o2
            refine ⟨ys, own_same hy (fun j hj => HG5.out.block j (by obtain ⟨cc, ec⟩ := own_ty hy hj; exact row_lt ec) (fun e => ?_))⟩
            exact HAP.out j (own_blk HX9.out e.symm) (own_blk hy hj))
          clear HG5 RN HLN BZ r1
          have r2 := row_cell R5.out 2
          obtain ⟨ys9, hy9⟩ := O5.out
          have HY9 := hid (own_on hy9 (ball w5 (.cells #[.int .i64 4714, .int .u64 0, .int .i64 0] 89)))
          have RN := hid (rdl_new w5 ⟨4714, 0, 0⟩)
          have HLN := hid (lvc_len [⟨4714, 0, 0⟩])
          have W6 := hid (W5.out.trans (Kp.of (fun _ => False) (ball w5 (.cells #[.int .i64 4714, .int .u64 0, .int .i64 0] 89))) (fun _ _ h => h.elim))
          have BZ := hid (show b ≤ (w5.alloc (.cells #[.int .i64 4714, .int .u64 0, .int .i64 0] 89)).heap.size from Nat.le_trans HBS.out W6.out.size)
          clear hy9
          go_wp2_with (at_builtin; refine wpList_app_rd (by rfl) (.tmp 34) (.tmp 36) 28 89 _ 3 24 (by rfl) Try.underlying28 infoL3 rfl (by decide) b _ n2 ys9 (by rfl) HY9.out (some ⟨w5.heap.size, 0, none⟩) 1 1 (lvc [⟨4714, 0, 0⟩]) (by rfl) (fun e => by cases e) HLN.out RN.out (lvc_one _) (by unfold maxLen; omega) (by omega) BZ.out ?_; intro v' w7 hown hgrow; have HG7 := hid hgrow; obtain ⟨pv2, cv2, rfl⟩ := own_form hown; clear hown hgrow)
          go_end0
          exact ⟨rfl, W6.out.grown HG7.out (fun j hj => .inr (own_blk HY9.out hj))⟩
theorem newP_no (d : Int) (h : ¬ (1 ≤ d ∧ d ≤ 64)) (w : World) : Calls Try.prog 7 #[.int .i64 d] w fun e w' => e = .returned (.tuple #[.pointer none, .int .i64 1]) ∧ Below w.heap.size w w' := by
  by_cases h1 : d < 1
  · go_enter Try.func7, Try.ntmps7
    go_wp2
    go_ret2
    exact ⟨rfl, Below.refl _ _⟩
  · have h2 : 64 < d := by omega
    have h1' : decide (d < 1) = false := by simpa using h1
    clear h h1
    go_enter Try.func7, Try.ntmps7
    go_wp2
    go_ret2
    exact ⟨rfl, Below.refl _ _⟩
theorem newP_ok (d : Nat) (h1 : 1 ≤ d) (h2 : d ≤ 64) (w : World) : Calls Try.prog 7 #[.int .i64 d] w fun e w' => ∃ B, e = .returned (.tuple #[.pointer (some ⟨B, 0, none⟩), .int .i64 0]) ∧ Pb w' B d 0 none 0 [] none 0 [] ∧ w.heap.size ≤ B ∧ Below w.heap.size w w' := by
  have a1 : decide ((d : Int) < 1) = false := by simp; omega
  have a2 : decide (64 < (d : Int)) = false := by simp; omega
  have a3 : decide (64 < d) = false := by simp; omega
  have a4 : decide (d < 1) = false := by simp; omega
  have HP := hid (show Pb (w.alloc (.cells #[.int .i64 d, .int .u64 0, .slice none 0 0, .slice none 0 0] 77)) w.heap.size d 0 none 0 [] none 0 [] from ⟨World.alloc_heap_new _ _, Rl.empty _, Rl.empty _, Lok.nil _, Lok.nil _, by simp, by simp, h1, h2, by omega⟩)
  go_enter Try.func7, Try.ntmps7
  go_wp2
  go_ret2
  exact ⟨w.heap.size, rfl, HP.out, Nat.le_refl _, ball _ _⟩
theorem rnewP_no (d : Int) (h : ¬ (1 ≤ d ∧ d ≤ 64)) (w : World) : Calls Try.prog 8 #[.int .i64 d] w fun e w' => e = .returned (.tuple #[.agg #[.int .i64 0, .int .u64 0, .slice none 0 0, .slice none 0 0], .int .i64 1]) ∧ Below w.heap.size w w' := by
  by_cases h1 : d < 1
  · go_enter Try.func8, Try.ntmps8
    go_wp2
    refine bodyPost_ret (v := .tuple #[.agg #[.int .i64 0, .int .u64 0, .slice none 0 0, .slice none 0 0], .int .i64 1]) (by simp [results, Try.results8, go_sem, *]) rfl ⟨rfl, ?_⟩
    exact ball _ _
  · have h2 : 64 < d := by omega
    have h1' : decide (d < 1) = false := by simpa using h1
    clear h h1
    go_enter Try.func8, Try.ntmps8
    go_wp2
    refine bodyPost_ret (v := .tuple #[.agg #[.int .i64 0, .int .u64 0, .slice none 0 0, .slice none 0 0], .int .i64 1]) (by simp [results, Try.results8, go_sem, *]) rfl ⟨rfl, ?_⟩
    exact ball _ _
theorem rnewP_ok (d : Nat) (h1 : 1 ≤ d) (h2 : d ≤ 64) (w : World) : Calls Try.prog 8 #[.int .i64 d] w fun e w' => e = .returned (.tuple #[.agg #[.int .i64 d, .int .u64 0, .slice none 0 0, .slice none 0 0], .int .i64 0]) ∧ Below w.heap.size w w' := by
  have a1 : decide ((d : Int) < 1) = false := by simp; omega
  have a2 : decide (64 < (d : Int)) = false := by simp; omega
  have a3 : decide (64 < d) = false := by simp; omega
  have a4 : decide (d < 1) = false := by simp; omega
  go_enter Try.func8, Try.ntmps8
  go_wp2
  refine bodyPost_ret (v := .tuple #[.agg #[.int .i64 d, .int .u64 0, .slice none 0 0, .slice none 0 0], .int .i64 0]) (by simp [results, Try.results8, go_sem, *]) rfl ⟨rfl, ?_⟩
  exact ball _ _
end Go.Proofs.Ytiphgfghdbmlcaa
