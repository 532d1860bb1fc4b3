/-
  What is listed of nothing; the steps on both calls of nothing.
-/
import Derived.Test.YtpnecefbefbggaaGreatNwB
namespace Go.Proofs.YtpnecefbefbggaaGreat
open Go.RowKit Go.Deep Go.Sort
set_option linter.unusedVariables false
set_option linter.unusedSimpArgs false
set_option maxHeartbeats 4000000
set_option maxRecDepth 100000
theorem Pn.cells {w0 w : World} {X B : Nat} {r m : Int} (h : Pn w0 w X B r m) : w.cell? ⟨X, 0, none⟩ = some (.pointer (some ⟨B, 0, none⟩)) ∧ w.cell? ⟨X, 1, none⟩ = some (.int .i64 r) ∧ w.cell? ⟨X, 2, none⟩ = some (.int .i64 m) ∧ w.cell? ⟨X, 3, none⟩ = some (.slice none 0 0) := row4 h.row
theorem Pn.kept {w0 w w' : World} {X B : Nat} {r m : Int} {P : Nat → Prop} (h : Pn w0 w X B r m) (hk : Kp P w w') (h0 : ∀ b, b < w0.heap.size → ¬ P b) (hX : ¬ P X) (hB : ¬ P B) : Pn w0 w' X B r m :=
  ⟨hk.row h.row hX, ⟨hk.row h.cl.row hB, Li.nil _, Li.nil _, h.cl.s1, h.cl.s2, h.cl.ap, h.cl.r0, h.cl.r1, h.cl.m0, h.cl.m1, h.cl.mb⟩, h.be.trans (hk.below h.be.size h0), h.ge⟩
theorem sameI_zero (p q : Option Addr) (c d : Nat) (w : World) : Calls Tryz.prog 25 #[.slice p 0 c, .slice q 0 d] w fun e w' => e = .returned (.bool true) ∧ Below w.heap.size w w' := by
  go_enter Tryz.func25, Tryz.ntmps25
  go_wp2
  go_loopw [5] (fun iv wr => iv = .int .i64 0 ∧ w = wr) (fun iv _ => 1 - (intOf iv).toNat)
  case atStart => exact ⟨rfl, rfl⟩
  case round =>
    obtain ⟨rfl, rfl⟩ := hrel
    go_wp2
    go_ret
    exact ⟨rfl, Below.refl _ _⟩
theorem made6 (U : World) (z : It) : (U.alloc (.cells #[.int .u64 z.id, .int .u32 z.mb, .int .i64 z.sd, .int .i64 z.ty, .int .i64 z.pr, .int .u64 z.qt] 35)).ownsRow 0 35 6 (.slice (some ⟨U.heap.size, 0, none⟩) 1 1) 1 (irow z).toList :=
  ⟨rfl, .inr ⟨U.heap.size, 1, #[.int .u64 z.id, .int .u32 z.mb, .int .i64 z.sd, .int .i64 z.ty, .int .i64 z.pr, .int .u64 z.qt], rfl, Nat.zero_le _, World.alloc_heap_new _ _, Nat.le_refl _, by unfold maxLen; omega, rfl, rfl⟩⟩
theorem own_ofp {base : Nat} {w : World} {e : TypeId} {size n c k : Nat} {p : Option Addr} {xs : List Value} (h : w.ownsRow base e size (.slice p n c) n xs) (hk : (Value.slice p n c).ownBlock = some k) : OfP p k := by
  obtain ⟨_, ⟨e5, _⟩ | ⟨g', c', cur, e5, _⟩⟩ := h
  · rw [e5] at hk; cases hk
  · have e6 := (Value.slice.inj e5).1
    rw [e5] at hk; cases hk
    exact e6
theorem listed_nil (X B : Nat) (r m : Int) (w0 w : World) (h : Pn w0 w X B r m) :
    Calls Tryz.prog 8 #[.pointer (some ⟨X, 0, none⟩), .int .i64 1] w fun e w' => e = .returned (.bool true) ∧ Pn w0 w' X B r m := by
  have HP := hid h
  obtain ⟨k0, k1, k2, k3⟩ := h.cells
  have hXs := row_lt h.row
  have hBs := row_lt h.cl.row
  have hw0 := h.be.size
  have CI := hid (fun (U : World) (hU : Pn w0 U X B r m) => (interests1 B r m none 0 [] none 0 [] U hU.cl).mono (R' := fun e w' => ∃ p c, e = .returned (.slice p 0 c) ∧ Hid (Li w' p c []) ∧ Hid (Below U.heap.size U w') ∧ Hid (Pn w0 w' X B r m) ∧ Hid (∀ g, OfP p g → U.heap.size ≤ g)) (fun e w' h => by obtain ⟨p, c, h1, h2, h3, h4⟩ := h; exact ⟨p, c, h1, hid h2, hid h3, hid (hU.on h3), hid h4⟩))
  have CR := hid (fun (U : World) (hU : Pn w0 U X B r m) => (rinterests_nil r m 1 U).mono (R' := fun e w' => e = .returned (.slice none 0 0) ∧ Hid (Below U.heap.size U w') ∧ Hid (Pn w0 w' X B r m)) (fun e w' h => ⟨h.1, hid h.2, hid (hU.on h.2)⟩))
  have CS := hid (fun (p q : Option Addr) (c d : Nat) (U : World) (hU : Pn w0 U X B r m) => (sameI_zero p q c d U).mono (R' := fun e w' => e = .returned (.bool true) ∧ Hid (Below U.heap.size U w') ∧ Hid (Pn w0 w' X B r m)) (fun e w' h => ⟨h.1, hid h.2, hid (hU.on h.2)⟩))
  clear h
  go_enter Tryz.func8, Tryz.ntmps8
  go_upto_region 2 with (go_at_call 24; with_reducible refine (CI.out _ HP.out).mono ?_; rintro e w1 ⟨p, c, rfl, HL, V1, HP1, HG⟩)
  clear k0 k1 k2 k3
  obtain ⟨k0, k1, k2, k3⟩ := HP1.out.cells
  go_wp2_with (first | (go_at_call 26; with_reducible refine (CR.out _ HP1.out).mono ?_; rintro e w2 ⟨rfl, V2, HP2⟩) | (go_at_call 25; with_reducible refine (CS.out _ _ _ _ _ HP2.out).mono ?_; rintro e w3 ⟨rfl, V3, HP3⟩))
  clear k0 k1 k2 k3
  go_loopw [7] (fun iv wr => iv = .int .i64 0 ∧ w3 = wr) (fun iv _ => 1 - (intOf iv).toNat)
  case atStart => exact ⟨rfl, rfl⟩
  case round =>
    obtain ⟨rfl, rfl⟩ := hrel
    have HOW := hid (show (w3.alloc (.cells #[.int .u64 4712, .int .u32 0, .int .i64 0, .int .i64 0, .int .i64 0, .int .u64 0] 35)).ownsRow 0 35 6 (.slice p 0 c) 0 [] from HL.out.on (btr (btr V2.out V3.out) (ball _ _)))
    have HON := hid (made6 w3 ⟨4712, 0, 0, 0, 0, 0⟩)
    go_upto_region 8 with (at_builtin; refine wpList_app_mine (by rfl) (.tmp 32) (.tmp 34) 26 35 _ 6 48 (by rfl) Tryz.underlying26 infoIt rfl (by decide) 0 0 _ 0 _ (by rfl) HOW.out _ 1 1 _ (by rfl) HON.out (irow_one _) (by unfold maxLen; omega) (by omega) (by simp) ?_; intro v' w4 hown hgrow; obtain ⟨p9, q9, rfl⟩ := own_form hown; have HG1 := hid hgrow; clear hown hgrow)
    have HKP := hid (show Kp (fun b => OfP p b) w3 w4 from ⟨HG1.out.os, HG1.out.tape, HG1.out.output, Nat.le_trans (by simp) HG1.out.size, fun b hb hB => (HG1.out.block b (by simp; omega) (fun e => hB (own_ofp HL.out e.symm))).trans ((ball w3 _).block b hb)⟩)
    have HP4 := hid (HP3.out.kept HKP.out (fun b hb hp => by have := HG.out b hp; omega) (fun hp => by have := HG.out X hp; omega) (fun hp => by have := HG.out B hp; omega))
    obtain ⟨k0, k1, k2, k3⟩ := HP4.out.cells
    go_region_held3 (fun U => U.cell? ⟨X, 0, none⟩ = some (.pointer (some ⟨B, 0, none⟩)) ∧ U.cell? ⟨X, 1, none⟩ = some (.int .i64 r) ∧ U.cell? ⟨X, 2, none⟩ = some (.int .i64 m) ∧ U.cell? ⟨X, 3, none⟩ = some (.slice none 0 0)) (go_keep) (first | (go_at_call 24; with_reducible refine (CI.out _ (HP4.out.on (bdrew1 w4))).mono ?_; rintro e w5 ⟨p5, c5, rfl, HL5, V5, HP5, HG5⟩; obtain ⟨k0, k1, k2, k3⟩ := HP5.out.cells) | (go_at_call 26; with_reducible refine (CR.out _ HP5.out).mono ?_; rintro e w6 ⟨rfl, V6, HP6⟩; obtain ⟨k0, k1, k2, k3⟩ := HP6.out.cells) | (go_at_call 25; with_reducible refine (CS.out _ _ _ _ _ HP6.out).mono ?_; rintro e w7 ⟨rfl, V7, HP7⟩; obtain ⟨k0, k1, k2, k3⟩ := HP7.out.cells))
    go_wp2
    go_ret
    exact ⟨rfl, HP7.out⟩
end Go.Proofs.YtpnecefbefbggaaGreat
