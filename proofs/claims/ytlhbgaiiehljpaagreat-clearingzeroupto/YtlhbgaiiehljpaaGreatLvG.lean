/-
  LvG
-/
import Derived.Test.YtlhbgaiiehljpaaGreatGAa
import Derived.Test.YtlhbgaiiehljpaaGreatLvF
namespace Go.Proofs.YtlhbgaiiehljpaaGreat.Ac
open List renaming getElem?_toArray → lqA, getElem?_cons_succ → lqB, getElem?_cons_zero → lqC
open List renaming getElem_toArray → lgA, getElem_cons_succ → lgB, getElem_cons_zero → lgC, setIfInBounds_toArray → lsA, set_cons_zero → lsB, set_cons_succ → lsC
open Go.RowKit Go.Deep Go.Maps MonM Go.Proofs.YtlhbgaiiehljpaaGreat
set_option linter.unusedVariables false
set_option linter.unusedSimpArgs false
set_option maxHeartbeats 8000000
set_option maxRecDepth 100000
attribute [local go_sem ↓] Go.wp_at_zero Go.wp_at_succ
theorem plc_end {l : List (Nat × Sv)} {x : Int} {i : Nat} {b : Bool} (h : Plc l x i b) (hx : ∀ y ∈ l, y.2.m < x) : i = l.length ∧ b = false := by
 have h1 : i = l.length := by
  by_cases c : i < l.length
  ·have := h.hi i c (Nat.le_refl _)
   have := hx _ (List.getElem_mem c)
   omega
  ·have := h.le; omega
 refine ⟨h1, ?_⟩
 cases b with
 | false => rfl
 | true => obtain ⟨h2, _⟩ := h.b.1 rfl; omega
theorem join_any (x ce : Int) {H : Nat} {o : Int} {p : Option Addr} {c : Nat} {l : List (Nat × Sv)} {M : Option Nat} {n : Nat} {f : HoP} (w : World) (h : Ho w H o p c l M n f) (hx0 : x ≠ 0) (hx : ∀ y ∈ l, y.2.m < x) (hc0 : 0 ≤ ce) (hc1 : ce ≤ 4611686018427387904) (hfs0 : 0 ≤ fs l) (hfs : fs l + ce ≤ 9223372036854775808) (hsz : l.length < 1000000) :
  Calls Tryz.prog 15 #[pb H, .agg #[.int .u32 x, .int .u64 ce]] w fun e w' => e = .returned (.int .i64 0) ∧ ∃ b g d, Ho w' H o (some ⟨g, 0, none⟩) d (l ++ [(b, ⟨x, ce, 0, false, false⟩)]) M n f ∧ Kp (Ob H p (bks l) M) w w' ∧ w.heap.size ≤ b ∧ (OfP p g ∨ w.heap.size ≤ g) := by
 obtain ⟨W1, hW1⟩ : ∃ W, w.alloc (.cells #[.int .u32 x, .int .u64 ce] 52) = W := ⟨_, rfl⟩
 have B1 := hid (show Below w.heap.size w W1 from by rw [← hW1]; exact ball _ _)
 obtain ⟨g3, hg3⟩ : ∃ g, w.heap.size = g := ⟨_, rfl⟩
 have R1 := hid (show W1.heap[g3]? = some (.cells #[.int .u32 x, .int .u64 ce] 52 (0, 0)) from by rw [← hW1, ← hg3]; exact World.alloc_heap_new _ _)
 have H1 := hid (h.on B1.out)
 have HH := hid h
 have CP := hid (place_any x W1 H1.out)
 have HX := hid hx
 have HSZ := hid hsz
 have CF := hid (fun (U : World) (hU : Below W1.heap.size W1 U) => funds_any U (H1.out.on hU))
 have e0 : (x == 0) = false := by simpa using hx0
 have e1 : decide (4611686018427387904 < ce) = false := decide_eq_false (by omega)
 obtain ⟨S, hS⟩ : ∃ S, fs l = S := ⟨_, rfl⟩
 rw [hS] at CF hfs0 hfs
 have e2 : IntKind.u64.wrap (S + ce) = S + ce := by rw [IntKind.wrap_u64]; omega
 have e3 : decide (9223372036854775808 < S + ce) = false := decide_eq_false (by omega)
 have HI := hid (fun (p : Option Addr) (c V b : Nat) (xs : List Value) (k : Nat) (U : World) (h : U.ownsRow 0 104 1 (.slice p k c) k xs) (hV : U.heap[V]? = some (.cells #[pb b] 104 (0, 0))) (hn : k ≤ 1000000) => insert_end p c V b xs k U h hV hn)
 have k0 := row_cell R1.out 0
 simp only [List.getElem?_toArray, List.getElem?_cons_zero] at k0
 have HW1 := hid hW1
 have HG3 := hid hg3
 obtain ⟨k, hk⟩ : ∃ k, l.length = k := ⟨_, rfl⟩
 have HK := hid hk
 have HR := hid (fun (U : World) (hU : Below W1.heap.size W1 U) => row_on H1.out.row hU)
 simp only [hk] at HR
 clear h hx hx0 hc0 hc1 hfs0 hfs hS hsz hW1 hg3 hk
 go_enter Tryz.func15, Tryz.ntmps15
 go_upto_region 1 with fail
 rw [HW1.out, HG3.out]
 go_upto_region 4 with (go_at_call 31; with_reducible refine CP.out.mono ?_; rintro e w1 ⟨i, b, rfl, h1, h2⟩; have P1 := hid h1; have B2 := hid h2; clear h1 h2)
 obtain ⟨hi, hb⟩ := plc_end P1.out HX.out
 subst hi hb
 simp only [HK.out]
 clear P1 CP k0
 go_upto_region 6 with fail
 have BW := hid (btr B1.out B2.out)
 have RF2 := hid (row_on R1.out B2.out)
 obtain ⟨V1, hV1⟩ : ∃ U, w1.drew = U := ⟨_, rfl⟩
 have bV1 := hid (show Below w1.heap.size w1 V1 from by rw [← hV1]; exact bdrew1 _)
 have DV1 := hid (btr B2.out bV1.out)
 have r2 := hid (row_on RF2.out bV1.out)
 refine wp_region_held_drew (S := (fun U => U.cell? ⟨g3, 1, none⟩ = some (.int .u64 ce))) (by kernel_rfl) ?_ (fun hHeld => ?_)
 ·(try dsimp only); rw [hV1]; exact row_cell r2.out 1
 rw [hV1] at hHeld ⊢
 clear hV1
 refine' tkz 0 rfl ?_ ?_
 rotate_left
 ·(intro w hSw; (try dsimp only at hSw); go_simp; try (with_reducible rfl))
 try simp only [lgA, lgB, lgC, Act.put, lsA, lsB, lsC]
 refine' tkz 1 rfl ?_ ?_
 rotate_left
 ·(intro w hSw; (try dsimp only at hSw); go_simp; try (with_reducible rfl))
 try simp only [lgA, lgB, lgC, Act.put, lsA, lsB, lsC]
 refine' tkz 2 rfl ?_ ?_
 rotate_left
 ·(intro w hSw; (try dsimp only at hSw); go_simp; try (with_reducible rfl))
 try simp only [lgA, lgB, lgC, Act.put, lsA, lsB, lsC]
 refine' tkz 3 rfl ?_ ?_
 rotate_left
 ·(intro w hSw; (try dsimp only at hSw); go_simp; try (with_reducible rfl))
 try simp only [lgA, lgB, lgC, Act.put, lsA, lsB, lsC]
 refine' tkz 4 rfl ?_ ?_
 rotate_left
 ·(intro w hSw; (try dsimp only at hSw); go_simp; try (with_reducible rfl))
 try simp only [lgA, lgB, lgC, Act.put, lsA, lsB, lsC]
 refine' tkz 6 rfl ?_ ?_
 rotate_left
 ·(intro w hSw; (try dsimp only at hSw); go_simp; try (with_reducible rfl))
 try simp only [lgA, lgB, lgC, Act.put, lsA, lsB, lsC]
 refine' tkz 7 rfl ?_ ?_
 rotate_left
 ·(intro w hSw; (try dsimp only at hSw); go_simp; try (with_reducible rfl))
 try simp only [lgA, lgB, lgC, Act.put, lsA, lsB, lsC]
 refine wpAnyH_ready (rs := [5]) (by kernel_rfl) (by simp) ?_
 refine (AllReadyH.cons rfl (fun K hK => ?_) AllReadyH.nil)
 go_simp
 go_at_call 32
 with_reducible refine (CF.out V1 DV1.out).mono ?_
 rintro e X3 ⟨rfl, cX3⟩
 have bX3 := hid cX3
 clear cX3
 have DX3 := hid (btr DV1.out bX3.out)
 have r4 := hid (row_on r2.out bX3.out)
 (try go_wp2_with fail)
 refine hK.out _ _ ?_ (fun hHeld => ?_)
 ·(try dsimp only); exact row_cell r4.out 1
 clear hK K
 try simp only [lgA, lgB, lgC, Act.put, lsA, lsB, lsC]
 refine' tkz 8 rfl ?_ ?_
 rotate_left
 ·(intro w hSw; (try dsimp only at hSw); go_simp; try (with_reducible rfl))
 try simp only [lgA, lgB, lgC, Act.put, lsA, lsB, lsC]
 refine' tkz 9 rfl ?_ ?_
 rotate_left
 ·(intro w hSw; (try dsimp only at hSw); go_simp; try (with_reducible rfl))
 try simp only [lgA, lgB, lgC, Act.put, lsA, lsB, lsC]
 refine' tkz 10 rfl ?_ ?_
 rotate_left
 ·(intro w hSw; (try dsimp only at hSw); go_simp; try (with_reducible rfl))
 try simp only [lgA, lgB, lgC, Act.put, lsA, lsB, lsC]
 refine' tkz 11 rfl ?_ ?_
 rotate_left
 ·(intro w hSw; (try dsimp only at hSw); go_simp; try (with_reducible rfl))
 try simp only [lgA, lgB, lgC, Act.put, lsA, lsB, lsC]
 refine wpAnyH_done (by kernel_rfl) ?_ _
 go_upto_region 8 with fail
 have B3 := hid DX3.out
 obtain ⟨w3, h3⟩ : ∃ U, X3 = U := ⟨_, rfl⟩
 rw [h3] at B3 ⊢
 clear h3
 have RF3 := hid (row_on R1.out B3.out)
 have RH3 := hid (HR.out _ B3.out)
 have HH3 := hid (H1.out.on B3.out)
 obtain ⟨V5, hV5⟩ : ∃ U, w3.drew = U := ⟨_, rfl⟩
 have bV5 := hid (show Below w3.heap.size w3 V5 from by rw [← hV5]; exact bdrew1 _)
 have DV5 := hid (btr B3.out bV5.out)
 have r6 := hid (row_on RF3.out bV5.out)
 have r7 := hid (row_on RH3.out bV5.out)
 have x8 := hid (HH3.out.on bV5.out)
 refine wp_region_held_drew (S := (fun U => U.cell? ⟨g3, 0, none⟩ = some (.int .u32 x) ∧ U.cell? ⟨g3, 1, none⟩ = some (.int .u64 ce))) (by kernel_rfl) ?_ (fun hHeld => ?_)
 ·(try dsimp only); rw [hV5]; exact ⟨row_cell r6.out 0, row_cell r6.out 1⟩
 rw [hV5] at hHeld ⊢
 clear hV5
 refine' tkz 0 rfl ?_ ?_
 rotate_left
 ·(intro w hSw; (try dsimp only at hSw); go_simp; try (with_reducible rfl))
 try simp only [lgA, lgB, lgC, Act.put, lsA, lsB, lsC]
 refine' tkz 1 rfl ?_ ?_
 rotate_left
 ·(intro w hSw; (try dsimp only at hSw); go_simp; try (with_reducible rfl))
 try simp only [lgA, lgB, lgC, Act.put, lsA, lsB, lsC]
 refine' tkz 2 rfl ?_ ?_
 rotate_left
 ·(intro w hSw; (try dsimp only at hSw); go_simp; try (with_reducible rfl))
 try simp only [lgA, lgB, lgC, Act.put, lsA, lsB, lsC]
 refine' tkz 3 rfl ?_ ?_
 rotate_left
 ·(intro w hSw; (try dsimp only at hSw); go_simp; try (with_reducible rfl))
 try simp only [lgA, lgB, lgC, Act.put, lsA, lsB, lsC]
 refine' tkz 5 rfl ?_ ?_
 rotate_left
 ·(intro w hSw; (try dsimp only at hSw); go_simp; try (with_reducible rfl))
 try simp only [lgA, lgB, lgC, Act.put, lsA, lsB, lsC]
 refine' tkz 6 rfl ?_ ?_
 rotate_left
 ·(intro w hSw; (try dsimp only at hSw); go_simp; try (with_reducible rfl))
 try simp only [lgA, lgB, lgC, Act.put, lsA, lsB, lsC]
 refine' tkz 7 rfl ?_ ?_
 rotate_left
 ·(intro w hSw; (try dsimp only at hSw); go_simp; try (with_reducible rfl))
 try simp only [lgA, lgB, lgC, Act.put, lsA, lsB, lsC]
 refine' tkz 8 rfl ?_ ?_
 rotate_left
 ·(intro w hSw; (try dsimp only at hSw); go_simp; try (with_reducible rfl))
 try simp only [lgA, lgB, lgC, Act.put, lsA, lsB, lsC]
 refine' tkz 9 rfl ?_ ?_
 rotate_left
 ·(intro w hSw; (try dsimp only at hSw); go_simp; try (with_reducible rfl))
 try simp only [lgA, lgB, lgC, Act.put, lsA, lsB, lsC]
 refine' tkz 10 rfl ?_ ?_
 rotate_left
 ·(intro w hSw; (try dsimp only at hSw); go_simp; try (with_reducible rfl))
 try simp only [lgA, lgB, lgC, Act.put, lsA, lsB, lsC]
 refine wpAnyH_ready (rs := [4, 11]) (by kernel_rfl) (by simp) ?_
 refine (AllReadyH.cons rfl (fun K hK => ?_) (AllReadyH.cons rfl (fun K hK => ?_) AllReadyH.nil))
 ·have z1 := row_cell r7.out 1
  simp only [lqA, lqB, lqC] at z1
  go_simp
  refine hK.out _ _ ?_ (fun hHeld => ?_)
  ·(try dsimp only); exact ⟨row_cell r6.out 0, row_cell r6.out 1⟩
  clear hK K z1
  try simp only [lgA, lgB, lgC, Act.put, lsA, lsB, lsC]
  refine wpAnyH_ready (rs := [11]) (by kernel_rfl) (by simp) ?_
  refine (AllReadyH.cons rfl (fun K hK => ?_) AllReadyH.nil)
  go_simp
  obtain ⟨X9, hX9⟩ : ∃ X, V5.alloc (.cells #[.int .u32 x, .int .u64 ce, .int .u64 0, .int .u64 0, .bool false, .bool false] 106) = X := ⟨_, rfl⟩
  have bX9 := hid (show Below V5.heap.size V5 X9 from by rw [← hX9]; exact ball _ _)
  have zX9 : X9.heap[V5.heap.size]? = some (.cells #[.int .u32 x, .int .u64 ce, .int .u64 0, .int .u64 0, .bool false, .bool false] 106 (0, 0)) := by rw [← hX9]; exact World.alloc_heap_new _ _
  have DX9 := hid (btr DV5.out bX9.out)
  have r11 := hid (row_on r6.out bX9.out)
  have r12 := hid (row_on r7.out bX9.out)
  have x13 := hid (x8.out.on bX9.out)
  obtain ⟨g10, hg10⟩ : ∃ g, V5.heap.size = g := ⟨_, rfl⟩
  have ne14 := hid (show g3 ≠ g10 from by have := row_lt r6.out; omega)
  have ne15 := hid (show H ≠ g10 from by have := row_lt r7.out; omega)
  have yg10 := hid (Nat.le_trans DV5.out.size (Nat.le_refl _))
  rw [hg10] at zX9 yg10
  have ZX9 := hid zX9
  rw [hX9, hg10]
  clear hX9 hg10 zX9
  refine hK.out _ _ ?_ (fun hHeld => ?_)
  ·(try dsimp only); exact ⟨row_cell r11.out 0, row_cell r11.out 1⟩
  clear hK K
  try simp only [lgA, lgB, lgC, Act.put, lsA, lsB, lsC]
  have yy := hid yg10.out
  refine wpAnyH_ready (rs := [12]) (by kernel_rfl) (by simp) ?_
  refine (AllReadyH.cons rfl (fun K hK => ?_) AllReadyH.nil)
  go_simp
  obtain ⟨X16, hX16⟩ : ∃ X, X9.alloc (.cells #[.pointer (some ⟨g10, 0, none⟩)] 104) = X := ⟨_, rfl⟩
  have bX16 := hid (show Below X9.heap.size X9 X16 from by rw [← hX16]; exact ball _ _)
  have zX16 : X16.heap[X9.heap.size]? = some (.cells #[.pointer (some ⟨g10, 0, none⟩)] 104 (0, 0)) := by rw [← hX16]; exact World.alloc_heap_new _ _
  have DX16 := hid (btr DX9.out bX16.out)
  have r18 := hid (row_on r11.out bX16.out)
  have r19 := hid (row_on r12.out bX16.out)
  have r20 := hid (row_on ZX9.out bX16.out)
  have x21 := hid (x13.out.on bX16.out)
  obtain ⟨g17, hg17⟩ : ∃ g, X9.heap.size = g := ⟨_, rfl⟩
  have ne22 := hid (show g3 ≠ g17 from by have := row_lt r11.out; omega)
  have ne23 := hid (show H ≠ g17 from by have := row_lt r12.out; omega)
  have ne24 := hid (show g10 ≠ g17 from by have := row_lt ZX9.out; omega)
  have yg17 := hid (Nat.le_trans DX9.out.size (Nat.le_refl _))
  rw [hg17] at zX16 yg17
  have ZX16 := hid zX16
  rw [hX16, hg17]
  clear hX16 hg17 zX16
  refine hK.out _ _ ?_ (fun hHeld => ?_)
  ·(try dsimp only); exact ⟨row_cell r18.out 0, row_cell r18.out 1⟩
  clear hK K
  try simp only [lgA, lgB, lgC, Act.put, lsA, lsB, lsC]
  refine wpAnyH_ready (rs := [13]) (by kernel_rfl) (by simp) ?_
  refine (AllReadyH.cons rfl (fun K hK => ?_) AllReadyH.nil)
  go_simp
  go_at_call 33
  with_reducible refine (HI.out p c g17 g10 (pv l) k X16 (by have := x21.out.me.own; rw [HK.out] at this; exact this) ZX16.out (by have := HSZ.out; rw [HK.out] at this; omega)).mono ?_
  rintro e X ⟨g, d, rfl, o1, o2, o3⟩
  have O1 := hid o1
  have O2 := hid o2
  have O3 := hid o3
  clear o1 o2 o3
  have RX := hid (O2.out.row r19.out (ofp_ne x21.out.me.own r19.out (by decide)))
  have RXF := hid (O2.out.row r18.out (ofp_ne x21.out.me.own r18.out (by decide)))
  (try go_wp2_with fail)
  refine hK.out _ _ ?_ (fun hHeld => ?_)
  ·(try dsimp only); exact ⟨row_cell RXF.out 0, row_cell RXF.out 1⟩
  clear hK K
  try simp only [lgA, lgB, lgC, Act.put, lsA, lsB, lsC]
  refine' tkz 14 rfl ?_ ?_
  rotate_left
  ·(intro w hSw; (try dsimp only at hSw); go_simp; try (with_reducible rfl))
  try simp only [lgA, lgB, lgC, Act.put, lsA, lsB, lsC]
  refine' tkz 15 rfl ?_ ?_
  rotate_left
  ·(intro w hSw; (try dsimp only at hSw); go_simp; try (with_reducible rfl))
  try simp only [lgA, lgB, lgC, Act.put, lsA, lsB, lsC]
  refine wpAnyH_ready (rs := [16]) (by kernel_rfl) (by simp) ?_
  refine (AllReadyH.cons rfl (fun K hK => ?_) AllReadyH.nil)
  have z1 := row_cell RX.out 1
  simp only [lqA, lqB, lqC] at z1
  have f1 := row_frz RX.out 1
  go_simp
  have RYF := hid ((Kp.set X H 1 (.slice (some ⟨g, 0, none⟩) (k + 1) d)).row RXF.out (row_ne RXF.out RX.out (by decide)))
  refine hK.out _ _ ?_ (fun hHeld => ?_)
  ·(try dsimp only); exact ⟨row_cell RYF.out 0, row_cell RYF.out 1⟩
  clear hK K
  try simp only [lgA, lgB, lgC, Act.put, lsA, lsB, lsC]
  refine wpAnyH_done (by kernel_rfl) ?_ _
  go_wp2
  go_ret
  have JE := join_end HH.out ⟨x, ce, 0, false, false⟩ (fun y hy => HX.out y hy) (W := X16) (X := X) (b := g10) (g := g) (d := d) (btr B1.out DX16.out) (Nat.le_trans B1.out.size yy.out) r20.out (by rw [HK.out]; exact O1.out) O2.out O3.out HSZ.out
  rw [HK.out] at JE
  exact ⟨rfl, g10, g, d, JE.1, JE.2.1, Nat.le_trans B1.out.size yy.out, JE.2.2⟩
 ·go_simp
  obtain ⟨X25, hX25⟩ : ∃ X, V5.alloc (.cells #[.int .u32 x, .int .u64 ce, .int .u64 0, .int .u64 0, .bool false, .bool false] 106) = X := ⟨_, rfl⟩
  have bX25 := hid (show Below V5.heap.size V5 X25 from by rw [← hX25]; exact ball _ _)
  have zX25 : X25.heap[V5.heap.size]? = some (.cells #[.int .u32 x, .int .u64 ce, .int .u64 0, .int .u64 0, .bool false, .bool false] 106 (0, 0)) := by rw [← hX25]; exact World.alloc_heap_new _ _
  have DX25 := hid (btr DV5.out bX25.out)
  have r27 := hid (row_on r6.out bX25.out)
  have r28 := hid (row_on r7.out bX25.out)
  have x29 := hid (x8.out.on bX25.out)
  obtain ⟨g26, hg26⟩ : ∃ g, V5.heap.size = g := ⟨_, rfl⟩
  have ne30 := hid (show g3 ≠ g26 from by have := row_lt r6.out; omega)
  have ne31 := hid (show H ≠ g26 from by have := row_lt r7.out; omega)
  have yg26 := hid (Nat.le_trans DV5.out.size (Nat.le_refl _))
  rw [hg26] at zX25 yg26
  have ZX25 := hid zX25
  rw [hX25, hg26]
  clear hX25 hg26 zX25
  refine hK.out _ _ ?_ (fun hHeld => ?_)
  ·(try dsimp only); exact ⟨row_cell r27.out 0, row_cell r27.out 1⟩
  clear hK K
  try simp only [lgA, lgB, lgC, Act.put, lsA, lsB, lsC]
  have yy := hid yg26.out
  refine wpAnyH_ready (rs := [4, 12]) (by kernel_rfl) (by simp) ?_
  refine (AllReadyH.cons rfl (fun K hK => ?_) (AllReadyH.cons rfl (fun K hK => ?_) AllReadyH.nil))
  ·have z1 := row_cell r28.out 1
   simp only [lqA, lqB, lqC] at z1
   go_simp
   refine hK.out _ _ ?_ (fun hHeld => ?_)
   ·(try dsimp only); exact ⟨row_cell r27.out 0, row_cell r27.out 1⟩
   clear hK K z1
   try simp only [lgA, lgB, lgC, Act.put, lsA, lsB, lsC]
   refine wpAnyH_ready (rs := [12]) (by kernel_rfl) (by simp) ?_
   refine (AllReadyH.cons rfl (fun K hK => ?_) AllReadyH.nil)
   go_simp
   obtain ⟨X32, hX32⟩ : ∃ X, X25.alloc (.cells #[.pointer (some ⟨g26, 0, none⟩)] 104) = X := ⟨_, rfl⟩
   have bX32 := hid (show Below X25.heap.size X25 X32 from by rw [← hX32]; exact ball _ _)
   have zX32 : X32.heap[X25.heap.size]? = some (.cells #[.pointer (some ⟨g26, 0, none⟩)] 104 (0, 0)) := by rw [← hX32]; exact World.alloc_heap_new _ _
   have DX32 := hid (btr DX25.out bX32.out)
   have r34 := hid (row_on r27.out bX32.out)
   have r35 := hid (row_on r28.out bX32.out)
   have r36 := hid (row_on ZX25.out bX32.out)
   have x37 := hid (x29.out.on bX32.out)
   obtain ⟨g33, hg33⟩ : ∃ g, X25.heap.size = g := ⟨_, rfl⟩
   have ne38 := hid (show g3 ≠ g33 from by have := row_lt r27.out; omega)
   have ne39 := hid (show H ≠ g33 from by have := row_lt r28.out; omega)
   have ne40 := hid (show g26 ≠ g33 from by have := row_lt ZX25.out; omega)
   have yg33 := hid (Nat.le_trans DX25.out.size (Nat.le_refl _))
   rw [hg33] at zX32 yg33
   have ZX32 := hid zX32
   rw [hX32, hg33]
   clear hX32 hg33 zX32
   refine hK.out _ _ ?_ (fun hHeld => ?_)
   ·(try dsimp only); exact ⟨row_cell r34.out 0, row_cell r34.out 1⟩
   clear hK K
   try simp only [lgA, lgB, lgC, Act.put, lsA, lsB, lsC]
   refine wpAnyH_ready (rs := [13]) (by kernel_rfl) (by simp) ?_
   refine (AllReadyH.cons rfl (fun K hK => ?_) AllReadyH.nil)
   go_simp
   go_at_call 33
   with_reducible refine (HI.out p c g33 g26 (pv l) k X32 (by have := x37.out.me.own; rw [HK.out] at this; exact this) ZX32.out (by have := HSZ.out; rw [HK.out] at this; omega)).mono ?_
   rintro e X ⟨g, d, rfl, o1, o2, o3⟩
   have O1 := hid o1
   have O2 := hid o2
   have O3 := hid o3
   clear o1 o2 o3
   have RX := hid (O2.out.row r35.out (ofp_ne x37.out.me.own r35.out (by decide)))
   have RXF := hid (O2.out.row r34.out (ofp_ne x37.out.me.own r34.out (by decide)))
   (try go_wp2_with fail)
   refine hK.out _ _ ?_ (fun hHeld => ?_)
   ·(try dsimp only); exact ⟨row_cell RXF.out 0, row_cell RXF.out 1⟩
   clear hK K
   try simp only [lgA, lgB, lgC, Act.put, lsA, lsB, lsC]
   refine' tkz 14 rfl ?_ ?_
   rotate_left
   ·(intro w hSw; (try dsimp only at hSw); go_simp; try (with_reducible rfl))
   try simp only [lgA, lgB, lgC, Act.put, lsA, lsB, lsC]
   refine' tkz 15 rfl ?_ ?_
   rotate_left
   ·(intro w hSw; (try dsimp only at hSw); go_simp; try (with_reducible rfl))
   try simp only [lgA, lgB, lgC, Act.put, lsA, lsB, lsC]
   refine wpAnyH_ready (rs := [16]) (by kernel_rfl) (by simp) ?_
   refine (AllReadyH.cons rfl (fun K hK => ?_) AllReadyH.nil)
   have z1 := row_cell RX.out 1
   simp only [lqA, lqB, lqC] at z1
   have f1 := row_frz RX.out 1
   go_simp
   have RYF := hid ((Kp.set X H 1 (.slice (some ⟨g, 0, none⟩) (k + 1) d)).row RXF.out (row_ne RXF.out RX.out (by decide)))
   refine hK.out _ _ ?_ (fun hHeld => ?_)
   ·(try dsimp only); exact ⟨row_cell RYF.out 0, row_cell RYF.out 1⟩
   clear hK K
   try simp only [lgA, lgB, lgC, Act.put, lsA, lsB, lsC]
   refine wpAnyH_done (by kernel_rfl) ?_ _
   go_wp2
   go_ret
   have JE := join_end HH.out ⟨x, ce, 0, false, false⟩ (fun y hy => HX.out y hy) (W := X32) (X := X) (b := g26) (g := g) (d := d) (btr B1.out DX32.out) (Nat.le_trans B1.out.size yy.out) r36.out (by rw [HK.out]; exact O1.out) O2.out O3.out HSZ.out
   rw [HK.out] at JE
   exact ⟨rfl, g26, g, d, JE.1, JE.2.1, Nat.le_trans B1.out.size yy.out, JE.2.2⟩
  ·go_simp
   obtain ⟨X41, hX41⟩ : ∃ X, X25.alloc (.cells #[.pointer (some ⟨g26, 0, none⟩)] 104) = X := ⟨_, rfl⟩
   have bX41 := hid (show Below X25.heap.size X25 X41 from by rw [← hX41]; exact ball _ _)
   have zX41 : X41.heap[X25.heap.size]? = some (.cells #[.pointer (some ⟨g26, 0, none⟩)] 104 (0, 0)) := by rw [← hX41]; exact World.alloc_heap_new _ _
   have DX41 := hid (btr DX25.out bX41.out)
   have r43 := hid (row_on r27.out bX41.out)
   have r44 := hid (row_on r28.out bX41.out)
   have r45 := hid (row_on ZX25.out bX41.out)
   have x46 := hid (x29.out.on bX41.out)
   obtain ⟨g42, hg42⟩ : ∃ g, X25.heap.size = g := ⟨_, rfl⟩
   have ne47 := hid (show g3 ≠ g42 from by have := row_lt r27.out; omega)
   have ne48 := hid (show H ≠ g42 from by have := row_lt r28.out; omega)
   have ne49 := hid (show g26 ≠ g42 from by have := row_lt ZX25.out; omega)
   have yg42 := hid (Nat.le_trans DX25.out.size (Nat.le_refl _))
   rw [hg42] at zX41 yg42
   have ZX41 := hid zX41
   rw [hX41, hg42]
   clear hX41 hg42 zX41
   refine hK.out _ _ ?_ (fun hHeld => ?_)
   ·(try dsimp only); exact ⟨row_cell r43.out 0, row_cell r43.out 1⟩
   clear hK K
   try simp only [lgA, lgB, lgC, Act.put, lsA, lsB, lsC]
   refine wpAnyH_ready (rs := [4]) (by kernel_rfl) (by simp) ?_
   refine (AllReadyH.cons rfl (fun K hK => ?_) AllReadyH.nil)
   have z1 := row_cell r44.out 1
   simp only [lqA, lqB, lqC] at z1
   go_simp
   refine hK.out _ _ ?_ (fun hHeld => ?_)
   ·(try dsimp only); exact ⟨row_cell r43.out 0, row_cell r43.out 1⟩
   clear hK K z1
   try simp only [lgA, lgB, lgC, Act.put, lsA, lsB, lsC]
   refine wpAnyH_ready (rs := [13]) (by kernel_rfl) (by simp) ?_
   refine (AllReadyH.cons rfl (fun K hK => ?_) AllReadyH.nil)
   go_simp
   go_at_call 33
   with_reducible refine (HI.out p c g42 g26 (pv l) k X41 (by have := x46.out.me.own; rw [HK.out] at this; exact this) ZX41.out (by have := HSZ.out; rw [HK.out] at this; omega)).mono ?_
   rintro e X ⟨g, d, rfl, o1, o2, o3⟩
   have O1 := hid o1
   have O2 := hid o2
   have O3 := hid o3
   clear o1 o2 o3
   have RX := hid (O2.out.row r44.out (ofp_ne x46.out.me.own r44.out (by decide)))
   have RXF := hid (O2.out.row r43.out (ofp_ne x46.out.me.own r43.out (by decide)))
   (try go_wp2_with fail)
   refine hK.out _ _ ?_ (fun hHeld => ?_)
   ·(try dsimp only); exact ⟨row_cell RXF.out 0, row_cell RXF.out 1⟩
   clear hK K
   try simp only [lgA, lgB, lgC, Act.put, lsA, lsB, lsC]
   refine' tkz 14 rfl ?_ ?_
   rotate_left
   ·(intro w hSw; (try dsimp only at hSw); go_simp; try (with_reducible rfl))
   try simp only [lgA, lgB, lgC, Act.put, lsA, lsB, lsC]
   refine' tkz 15 rfl ?_ ?_
   rotate_left
   ·(intro w hSw; (try dsimp only at hSw); go_simp; try (with_reducible rfl))
   try simp only [lgA, lgB, lgC, Act.put, lsA, lsB, lsC]
   refine wpAnyH_ready (rs := [16]) (by kernel_rfl) (by simp) ?_
   refine (AllReadyH.cons rfl (fun K hK => ?_) AllReadyH.nil)
   have z1 := row_cell RX.out 1
   simp only [lqA, lqB, lqC] at z1
   have f1 := row_frz RX.out 1
   go_simp
   have RYF := hid ((Kp.set X H 1 (.slice (some ⟨g, 0, none⟩) (k + 1) d)).row RXF.out (row_ne RXF.out RX.out (by decide)))
   refine hK.out _ _ ?_ (fun hHeld => ?_)
   ·(try dsimp only); exact ⟨row_cell RYF.out 0, row_cell RYF.out 1⟩
   clear hK K
   try simp only [lgA, lgB, lgC, Act.put, lsA, lsB, lsC]
   refine wpAnyH_done (by kernel_rfl) ?_ _
   go_wp2
   go_ret
   have JE := join_end HH.out ⟨x, ce, 0, false, false⟩ (fun y hy => HX.out y hy) (W := X41) (X := X) (b := g26) (g := g) (d := d) (btr B1.out DX41.out) (Nat.le_trans B1.out.size yy.out) r45.out (by rw [HK.out]; exact O1.out) O2.out O3.out HSZ.out
   rw [HK.out] at JE
   exact ⟨rfl, g26, g, d, JE.1, JE.2.1, Nat.le_trans B1.out.size yy.out, JE.2.2⟩
end Go.Proofs.YtlhbgaiiehljpaaGreat.Ac
