/-
  An interest is entered into a call.
-/
import Derived.Test.YtknikhoobhgidaaAuS
namespace Go.Proofs.Ytknikhoobhgidaa
open Go.RowKit Go.Deep Go.Shelf
set_option linter.unusedVariables false
set_option linter.unusedSimpArgs false
set_option maxHeartbeats 4000000
set_option maxRecDepth 100000
theorem enter_bad (B : Nat) (r m : Int) (p1 : Option Addr) (c1 : Nat) (b : List It) (p2 : Option Addr) (c2 : Nat) (s : List It) (x : It) (w : World) (h : Cl w B r m p1 c1 b p2 c2 s) (hr : rfi m b s x ≠ 0) :
    Calls Try.prog 19 #[.pointer (some ⟨B, 0, none⟩), .agg #[.int .u64 x.id, .int .u32 x.mb, .int .i64 x.sd, .int .i64 x.ty, .int .i64 x.pr, .int .u64 x.qt]] w fun e w' => e = .returned (.int .i64 (rfi m b s x)) ∧ Below w.heap.size w w' := by
  obtain ⟨R, hR⟩ : ∃ R, w.heap.size = R := ⟨_, rfl⟩
  obtain ⟨W, hW⟩ : ∃ W, w.alloc (.cells #[.int .u64 x.id, .int .u32 x.mb, .int .i64 x.sd, .int .i64 x.ty, .int .i64 x.pr, .int .u64 x.qt] 36) = W := ⟨_, rfl⟩
  have HBW := hid (show Below w.heap.size w W from by rw [← hW]; exact ball _ _)
  have HX := hid (show W.heap[R]? = some (.cells #[.int .u64 x.id, .int .u32 x.mb, .int .i64 x.sd, .int .i64 x.ty, .int .i64 x.pr, .int .u64 x.qt] 36 (0, 0)) from by rw [← hW, ← hR]; exact World.alloc_heap_new _ _)
  have CR := hid (refusal_any B r m p1 c1 b p2 c2 s x W (h.on HBW.out))
  obtain ⟨v, hv⟩ : ∃ v, rfi m b s x = v := ⟨_, rfl⟩
  rw [hv] at CR hr ⊢
  have t1 : (v != 0) = true := by simpa using hr
  obtain ⟨x0, x1, x2, x3, x4, x5⟩ := row6 HX.out
  have HW := hid hW
  have HRR := hid hR
  clear h hW hR hv hr
  go_enter Try.func19, Try.ntmps19
  go_upto_region 1 with fail
  rw [HW.out, HRR.out]
  go_wp2_with (go_at_call 33; with_reducible refine (CR.out).mono ?_; rintro e w1 ⟨rfl, hb⟩; have V1 := hid hb; clear hb)
  go_ret
  exact ⟨rfl, btr HBW.out V1.out⟩
theorem rfi_ok {m : Int} {b s : List It} {x : It} (h : rfi m b s x = 0) : ck x = 0 ∧ x.id ≠ 0 ∧ hsi x.id b = false ∧ hsi x.id s = false ∧ (b.length : Int) + s.length < m := by
  unfold rfi at h
  split at h
  · rename_i h1; exact absurd h h1
  · rename_i h1
    split at h
    · omega
    · rename_i h2
      split at h
      · omega
      · rename_i h3
        have h4 : ¬ (hsi x.id b || hsi x.id s) = true := fun e => h2 (.inr e)
        simp only [Bool.or_eq_true, not_or, Bool.not_eq_true] at h4
        exact ⟨Decidable.not_not.1 h1, fun e => h2 (.inl e), h4.1, h4.2, by omega⟩
theorem of1' (B : Nat) (s : Int) (hs : s = 1) (w : World) : Calls Try.prog 28 #[.pointer (some ⟨B, 0, none⟩), .int .i64 s] w fun e w' => e = .returned (.pointer (some ⟨B, 2, none⟩)) ∧ w = w' := by
  subst hs
  exact (of1 B w).mono (fun e w' h => ⟨h.1, h.2.symm⟩)
theorem of2' (B : Nat) (s : Int) (hs : s = 2) (w : World) : Calls Try.prog 28 #[.pointer (some ⟨B, 0, none⟩), .int .i64 s] w fun e w' => e = .returned (.pointer (some ⟨B, 3, none⟩)) ∧ w = w' := by
  subst hs
  exact (of2 B w).mono (fun e w' h => ⟨h.1, h.2.symm⟩)
theorem enter_buy (B : Nat) (r m : Int) (p1 : Option Addr) (c1 : Nat) (b : List It) (p2 : Option Addr) (c2 : Nat) (s : List It) (x : It) (w : World) (h : Cl w B r m p1 c1 b p2 c2 s) (hr : rfi m b s x = 0) (hs : x.sd = 1) :
    Calls Try.prog 19 #[.pointer (some ⟨B, 0, none⟩), .agg #[.int .u64 x.id, .int .u32 x.mb, .int .i64 x.sd, .int .i64 x.ty, .int .i64 x.pr, .int .u64 x.qt]] w fun e w' => e = .returned (.int .i64 0) ∧ ∃ p' c', Cl w' B r m p' c' (ent x b) p2 c2 s ∧ (∀ g, OfP p' g → OfP p1 g ∨ w.heap.size ≤ g) ∧ Kp (fun j => j = B ∨ OfP p1 j) w w' := by
  obtain ⟨R, hR⟩ : ∃ R, w.heap.size = R := ⟨_, rfl⟩
  obtain ⟨W, hW⟩ : ∃ W, w.alloc (.cells #[.int .u64 x.id, .int .u32 x.mb, .int .i64 x.sd, .int .i64 x.ty, .int .i64 x.pr, .int .u64 x.qt] 36) = W := ⟨_, rfl⟩
  have HBW := hid (show Below w.heap.size w W from by rw [← hW]; exact ball _ _)
  have HX := hid (show W.heap[R]? = some (.cells #[.int .u64 x.id, .int .u32 x.mb, .int .i64 x.sd, .int .i64 x.ty, .int .i64 x.pr, .int .u64 x.qt] 36 (0, 0)) from by rw [← hW, ← hR]; exact World.alloc_heap_new _ _)
  have CR := hid (refusal_any B r m p1 c1 b p2 c2 s x W (h.on HBW.out))
  obtain ⟨hck, hid0, hh1, hh2, hlen⟩ := rfi_ok hr
  rw [hr] at CR
  have hik : Ik 1 x := by have := (ck_ok hck).1; rw [hs] at this; exact this
  have O := hid (fun U => of1' B x.sd hs U)
  have hm1 := h.m1
  have CL := hid (fun U (hU : Below W.heap.size W U) => lenter_any B 2 1 _ x p1 c1 b U (h.on (btr HBW.out hU)).row rfl (h.on (btr HBW.out hU)).l1 h.s1 hik (by omega))
  have HC := hid h
  have HLEN := hid hlen
  have HIK := hid hik
  have HXS := hid (show ∀ U, Below W.heap.size W U → U.cell? ⟨R, 0, none⟩ = some (.int .u64 x.id) ∧ U.cell? ⟨R, 1, none⟩ = some (.int .u32 x.mb) ∧ U.cell? ⟨R, 2, none⟩ = some (.int .i64 x.sd) ∧ U.cell? ⟨R, 3, none⟩ = some (.int .i64 x.ty) ∧ U.cell? ⟨R, 4, none⟩ = some (.int .i64 x.pr) ∧ U.cell? ⟨R, 5, none⟩ = some (.int .u64 x.qt) from fun U hU => row6 (row_on HX.out hU))
  have HPR := hid (show ∀ g, OfP p1 g → g < w.heap.size from fun g hg => by obtain ⟨cu, hc⟩ := h.l1.ty hg; exact row_lt hc)
  have sB := row_lt h.row
  obtain ⟨x0, x1, x2, x3, x4, x5⟩ := row6 HX.out
  have HW := hid hW
  have HRR := hid hR
  clear h hW hR hr hs hck hid0 hh1 hh2 hlen hik
  go_enter Try.func19, Try.ntmps19
  go_upto_region 1 with fail
  rw [HW.out, HRR.out]
  go_upto_region 4 with (go_at_call 33; with_reducible refine (CR.out).mono ?_; rintro e w1 ⟨rfl, hb⟩; have V1 := hid hb; clear hb)
  clear x0 x1 x2 x3 x4 x5
  obtain ⟨x0, x1, x2, x3, x4, x5⟩ := HXS.out w1 V1.out
  go_region_held3 (fun U => U.cell? ⟨R, 0, none⟩ = some (.int .u64 x.id) ∧ U.cell? ⟨R, 1, none⟩ = some (.int .u32 x.mb) ∧ U.cell? ⟨R, 2, none⟩ = some (.int .i64 x.sd) ∧ U.cell? ⟨R, 3, none⟩ = some (.int .i64 x.ty) ∧ U.cell? ⟨R, 4, none⟩ = some (.int .i64 x.pr) ∧ U.cell? ⟨R, 5, none⟩ = some (.int .u64 x.qt)) (go_keep) (first | (go_at_call 28; with_reducible refine (O.out _).mono ?_; rintro e w2 ⟨rfl, rfl⟩) | (go_at_call 34; with_reducible refine (CL.out _ (btr V1.out (bdrew1 w1))).mono ?_; rintro e w3 ⟨rfl, p', c', h1, h2, h3, h4⟩; have H1 := hid h1; have H2 := hid h2; have H3 := hid h3; have H4 := hid h4; obtain ⟨x0, x1, x2, x3, x4, x5⟩ := row6 (h4.row (row_on HX.out (btr V1.out (bdrew1 w1))) (fun e => e.elim (fun e => by have := HRR.out; omega) (fun e => by have := HPR.out R e; have := HRR.out; omega))); clear h1 h2 h3 h4))
  go_wp2
  go_ret
  have hb2 : Below w.heap.size w w1.drew := btr HBW.out (btr V1.out (bdrew1 w1))
  have hc := HC.out.on hb2
  have hli : (ent x b).length = b.length + 1 := ins_len (bh_le _ _)
  have hle := HLEN.out
  have hkp := (Kp.of (fun j => j = B ∨ OfP p1 j) hb2).trans H4.out (fun _ _ h => h)
  refine ⟨rfl, p', c', ⟨H1.out, H2.out, hc.l2.kept H4.out (fun g hg e => e.elim (fun e => by obtain ⟨cu, hcu⟩ := hc.l2.ty hg; exact row_ne hcu hc.row (by decide) e) (fun e => hc.ap g e hg)), hc.s1.ent HIK.out (by have := hc.m1; omega), hc.s2, ?_, hc.r0, hc.r1, hc.m0, hc.m1, ?_⟩, fun g hg => (H3.out g hg).imp id (fun h => Nat.le_trans hb2.size h), hkp⟩
  · intro g hg hg2
    rcases H3.out g hg with h | h
    · exact hc.ap g h hg2
    · obtain ⟨cu, hcu⟩ := hc.l2.ty hg2
      have := row_lt hcu
      omega
  · rw [hli]
    omega
theorem enter_sell (B : Nat) (r m : Int) (p1 : Option Addr) (c1 : Nat) (b : List It) (p2 : Option Addr) (c2 : Nat) (s : List It) (x : It) (w : World) (h : Cl w B r m p1 c1 b p2 c2 s) (hr : rfi m b s x = 0) (hs : x.sd = 2) :
    Calls Try.prog 19 #[.pointer (some ⟨B, 0, none⟩), .agg #[.int .u64 x.id, .int .u32 x.mb, .int .i64 x.sd, .int .i64 x.ty, .int .i64 x.pr, .int .u64 x.qt]] w fun e w' => e = .returned (.int .i64 0) ∧ ∃ p' c', Cl w' B r m p1 c1 b p' c' (ent x s) ∧ (∀ g, OfP p' g → OfP p2 g ∨ w.heap.size ≤ g) ∧ Kp (fun j => j = B ∨ OfP p2 j) w w' := by
  obtain ⟨R, hR⟩ : ∃ R, w.heap.size = R := ⟨_, rfl⟩
  obtain ⟨W, hW⟩ : ∃ W, w.alloc (.cells #[.int .u64 x.id, .int .u32 x.mb, .int .i64 x.sd, .int .i64 x.ty, .int .i64 x.pr, .int .u64 x.qt] 36) = W := ⟨_, rfl⟩
  have HBW := hid (show Below w.heap.size w W from by rw [← hW]; exact ball _ _)
  have HX := hid (show W.heap[R]? = some (.cells #[.int .u64 x.id, .int .u32 x.mb, .int .i64 x.sd, .int .i64 x.ty, .int .i64 x.pr, .int .u64 x.qt] 36 (0, 0)) from by rw [← hW, ← hR]; exact World.alloc_heap_new _ _)
  have CR := hid (refusal_any B r m p1 c1 b p2 c2 s x W (h.on HBW.out))
  obtain ⟨hck, hid0, hh1, hh2, hlen⟩ := rfi_ok hr
  rw [hr] at CR
  have hik : Ik 2 x := by have := (ck_ok hck).1; rw [hs] at this; exact this
  have O := hid (fun U => of2' B x.sd hs U)
  have hm1 := h.m1
  have CL := hid (fun U (hU : Below W.heap.size W U) => lenter_any B 3 2 _ x p2 c2 s U (h.on (btr HBW.out hU)).row rfl (h.on (btr HBW.out hU)).l2 h.s2 hik (by omega))
  have HC := hid h
  have HLEN := hid hlen
  have HIK := hid hik
  have HXS := hid (show ∀ U, Below W.heap.size W U → U.cell? ⟨R, 0, none⟩ = some (.int .u64 x.id) ∧ U.cell? ⟨R, 1, none⟩ = some (.int .u32 x.mb) ∧ U.cell? ⟨R, 2, none⟩ = some (.int .i64 x.sd) ∧ U.cell? ⟨R, 3, none⟩ = some (.int .i64 x.ty) ∧ U.cell? ⟨R, 4, none⟩ = some (.int .i64 x.pr) ∧ U.cell? ⟨R, 5, none⟩ = some (.int .u64 x.qt) from fun U hU => row6 (row_on HX.out hU))
  have HPR := hid (show ∀ g, OfP p2 g → g < w.heap.size from fun g hg => by obtain ⟨cu, hc⟩ := h.l2.ty hg; exact row_lt hc)
  have sB := row_lt h.row
  obtain ⟨x0, x1, x2, x3, x4, x5⟩ := row6 HX.out
  have HW := hid hW
  have HRR := hid hR
  clear h hW hR hr hs hck hid0 hh1 hh2 hlen hik
  go_enter Try.func19, Try.ntmps19
  go_upto_region 1 with fail
  rw [HW.out, HRR.out]
  go_upto_region 4 with (go_at_call 33; with_reducible refine (CR.out).mono ?_; rintro e w1 ⟨rfl, hb⟩; have V1 := hid hb; clear hb)
  clear x0 x1 x2 x3 x4 x5
  obtain ⟨x0, x1, x2, x3, x4, x5⟩ := HXS.out w1 V1.out
  go_region_held3 (fun U => U.cell? ⟨R, 0, none⟩ = some (.int .u64 x.id) ∧ U.cell? ⟨R, 1, none⟩ = some (.int .u32 x.mb) ∧ U.cell? ⟨R, 2, none⟩ = some (.int .i64 x.sd) ∧ U.cell? ⟨R, 3, none⟩ = some (.int .i64 x.ty) ∧ U.cell? ⟨R, 4, none⟩ = some (.int .i64 x.pr) ∧ U.cell? ⟨R, 5, none⟩ = some (.int .u64 x.qt)) (go_keep) (first | (go_at_call 28; with_reducible refine (O.out _).mono ?_; rintro e w2 ⟨rfl, rfl⟩) | (go_at_call 34; with_reducible refine (CL.out _ (btr V1.out (bdrew1 w1))).mono ?_; rintro e w3 ⟨rfl, p', c', h1, h2, h3, h4⟩; have H1 := hid h1; have H2 := hid h2; have H3 := hid h3; have H4 := hid h4; obtain ⟨x0, x1, x2, x3, x4, x5⟩ := row6 (h4.row (row_on HX.out (btr V1.out (bdrew1 w1))) (fun e => e.elim (fun e => by have := HRR.out; omega) (fun e => by have := HPR.out R e; have := HRR.out; omega))); clear h1 h2 h3 h4))
  go_wp2
  go_ret
  have hb2 : Below w.heap.size w w1.drew := btr HBW.out (btr V1.out (bdrew1 w1))
  have hc := HC.out.on hb2
  have hli : (ent x s).length = s.length + 1 := ins_len (bh_le _ _)
  have hle := HLEN.out
  have hkp := (Kp.of (fun j => j = B ∨ OfP p2 j) hb2).trans H4.out (fun _ _ h => h)
  refine ⟨rfl, p', c', ⟨H1.out, hc.l1.kept H4.out (fun g hg e => e.elim (fun e => by obtain ⟨cu, hcu⟩ := hc.l1.ty hg; exact row_ne hcu hc.row (by decide) e) (fun e => hc.ap g hg e)), H2.out, hc.s1, hc.s2.ent HIK.out (by have := hc.m1; omega), ?_, hc.r0, hc.r1, hc.m0, hc.m1, ?_⟩, fun g hg => (H3.out g hg).imp id (fun h => Nat.le_trans hb2.size h), hkp⟩
  · intro g hg hg2
    rcases H3.out g hg2 with h | h
    · exact hc.ap g hg h
    · obtain ⟨cu, hcu⟩ := hc.l1.ty hg
      have := row_lt hcu
      omega
  · rw [hli]
    omega
end Go.Proofs.Ytknikhoobhgidaa
