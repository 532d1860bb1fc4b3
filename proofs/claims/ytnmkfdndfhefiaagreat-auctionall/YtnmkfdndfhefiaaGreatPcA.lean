/-
  What is listed of a side.
-/
import Derived.Test.YtnmkfdndfhefiaaGreatPbA
namespace Go.Proofs.YtnmkfdndfhefiaaGreat
open Go.RowKit Go.Deep Go.Shelf
set_option linter.unusedVariables false
set_option linter.unusedSimpArgs false
set_option maxHeartbeats 16000000
set_option maxRecDepth 100000
attribute [local go_sem ↓] Go.wp_at_zero Go.wp_at_succ
theorem Pp.cells {w0 w : World} {O : Nat → Prop} {X B : Nat} {r m : Int} {L : List It} {p1 : Option Addr} {c1 : Nat} {p2 : Option Addr} {c2 : Nat} {pL : Option Addr} {cL : Nat} (h : Pp w0 w O X B r m L p1 c1 p2 c2 pL cL) {nL : Nat} (hn : L.length = nL) : w.cell? ⟨X, 0, none⟩ = some (.pointer (some ⟨B, 0, none⟩)) ∧ w.cell? ⟨X, 1, none⟩ = some (.int .i64 r) ∧ w.cell? ⟨X, 2, none⟩ = some (.int .i64 m) ∧ w.cell? ⟨X, 3, none⟩ = some (.slice pL nL cL) := by
  have := row4 h.row
  rw [hn] at this
  exact this
theorem interests0 (B : Nat) (s : Int) (w : World) (h1 : s ≠ 1) (h2 : s ≠ 2) :
    Calls Tryz.prog 23 #[.pointer (some ⟨B, 0, none⟩), .int .i64 s] w fun e w' => e = .returned (.slice none 0 0) ∧ Below w.heap.size w w' := by
  have CS := hid (fun U => isSide_any s U)
  rw [show isS s = false from by simp [isS, h1, h2]] at CS
  clear h1 h2
  go_enter Tryz.func23, Tryz.ntmps23
  go_wp2_with (go_at_call 44; with_reducible refine (CS.out _).mono ?_; rintro e w1 ⟨rfl, rfl⟩)
  go_ret
  exact ⟨rfl, Below.refl _ _⟩
theorem interests_any (B : Nat) (r m s : Int) (p1 : Option Addr) (c1 : Nat) (L : List It) (p2 : Option Addr) (c2 : Nat) (w : World) (h : Cl w B r m p1 c1 (iso 1 L) p2 c2 (iso 2 L)) (hk : Lk L) :
    Calls Tryz.prog 23 #[.pointer (some ⟨B, 0, none⟩), .int .i64 s] w fun e w' => ∃ p' c', e = .returned (.slice p' (iso s L).length c') ∧ Li w' p' c' (iso s L) ∧ Below w.heap.size w w' ∧ ∀ g, OfP p' g → w.heap.size ≤ g := by
  by_cases h1 : s = 1
  · subst h1; exact interests1 B r m p1 c1 _ p2 c2 _ w h
  · by_cases h2 : s = 2
    · subst h2; exact interests2 B r m p1 c1 _ p2 c2 _ w h
    · rw [iso_none (fun x hx => (hk.ok x hx).2) h1 h2]
      refine (interests0 B s w h1 h2).mono ?_
      rintro e w' ⟨rfl, hb⟩
      exact ⟨none, 0, rfl, Li.nil _, hb, fun g hg => by cases hg⟩
/-- a cell of one's own slice is written over. -/
theorem own_set {base : Nat} {w : World} {e : TypeId} {size n c : Nat} {p : Option Addr} {xs : List Value} (h : w.ownsRow base e size (.slice p n c) n xs) {g : Nat} (hg : OfP p g) (i : Nat) (v : Value) : ∃ ys, (w.setCell ⟨g, i, none⟩ v).ownsRow base e size (.slice p n c) n ys := by
  obtain ⟨h0, ⟨e1, e2⟩ | ⟨g', c', cur, e1, r1, r2, r3, r4, r5, r6⟩⟩ := h
  · subst hg; cases (Value.slice.inj e1).1
  · have e3 := (Value.slice.inj e1).1
    subst hg
    injection e3 with e3
    injection e3 with e3
    subst e3
    refine ⟨(cur.setIfInBounds i v).toList.take (n * size), ?_, .inr ⟨g, c', cur.setIfInBounds i v, e1, r1, heap_setCell_same w g i cur e v r2, r3, r4, by simp [r5], rfl⟩⟩
    rw [List.length_take]
    have : (cur.setIfInBounds i v).toList.length = cur.size := by simp
    rw [this, r5]
    exact Nat.min_eq_left (Nat.mul_le_mul_right _ r3)
theorem own_any {base : Nat} {w : World} {e : TypeId} {size n c : Nat} {p : Option Addr} {xs : List Value} (h : w.ownsRow base e size (.slice p n c) n xs) (hn : 0 < n) : ∃ g, p = some ⟨g, 0, none⟩ ∧ ∀ j, j < n * size → (∃ u, w.cell? ⟨g, j, none⟩ = some u) ∧ w.frozen? ⟨g, j, none⟩ = false := by
  obtain ⟨h0, ⟨e1, e2⟩ | ⟨g, c', cur, e1, r1, r2, r3, r4, r5, r6⟩⟩ := h
  · omega
  · refine ⟨g, (Value.slice.inj e1).1, fun j hj => ⟨?_, row_frz r2 j⟩⟩
    have : j < cur.size := by rw [r5]; exact Nat.lt_of_lt_of_le hj (Nat.mul_le_mul_right _ r3)
    exact ⟨cur[j], by rw [row_cell r2, Array.getElem?_eq_getElem this]⟩
theorem listed_any {w0 w : World} {O : Nat → Prop} {X B : Nat} {r m : Int} {L : List It} {p1 : Option Addr} {c1 : Nat} {p2 : Option Addr} {c2 : Nat} {pL : Option Addr} {cL : Nat} (h : Pp w0 w O X B r m L p1 c1 p2 c2 pL cL) (s : Int) :
    Calls Tryz.prog 7 #[.pointer (some ⟨X, 0, none⟩), .int .i64 s] w fun e w' => e = .returned (.bool true) ∧ Nx w0 w w' O X := by
  obtain ⟨nL, hnL⟩ : ∃ k, L.length = k := ⟨_, rfl⟩
  obtain ⟨S, hS⟩ : ∃ l, iso s L = l := ⟨_, rfl⟩
  obtain ⟨k, hk⟩ : ∃ k, S.length = k := ⟨_, rfl⟩
  have hkn : k ≤ 4096 := by rw [← hk, ← hS, (iso_perm s L).length_eq]; exact Nat.le_trans (List.length_filter_le _ _) h.lk.ln
  have HP := hid h
  have HKK := hid hk
  have HX := hid (fun (U : World) (hU : Pp w0 U O X B r m L p1 c1 p2 c2 pL cL) => hU.cells hnL)
  have CI := hid (fun (U : World) (hU : Pp w0 U O X B r m L p1 c1 p2 c2 pL cL) => (show Calls Tryz.prog 23 #[.pointer (some ⟨B, 0, none⟩), .int .i64 s] U fun e w' => ∃ p c, e = .returned (.slice p k c) ∧ Hid (Li w' p c S) ∧ Hid (Below U.heap.size U w') ∧ Hid (Pp w0 w' O X B r m L p1 c1 p2 c2 pL cL) ∧ Hid (∀ g, OfP p g → U.heap.size ≤ g) from by
    have := interests_any B r m s p1 c1 L p2 c2 U hU.cl hU.lk
    rw [hS, hk] at this
    exact this.mono (fun e w' hh => by obtain ⟨p, c, h1, h2, h3, h4⟩ := hh; exact ⟨p, c, h1, hid h2, hid h3, hid (hU.on h3), hid h4⟩)))
  have CR := hid (fun (U : World) (hU : Pp w0 U O X B r m L p1 c1 p2 c2 pL cL) => (show Calls Tryz.prog 25 #[.agg #[.int .i64 r, .int .i64 m, .slice pL nL cL], .int .i64 s] U fun e w' => ∃ p c, e = .returned (.slice p k c) ∧ Hid (Li w' p c S) ∧ Hid (Below U.heap.size U w') ∧ Hid (Pp w0 w' O X B r m L p1 c1 p2 c2 pL cL) from by
    have := rinterests_any r m s pL cL L U hU.li hU.lk.ln hU.lk.ok
    rw [hS, hk, hnL] at this
    exact this.mono (fun e w' hh => by obtain ⟨p, c, h1, h2, h3, h4⟩ := hh; exact ⟨p, c, h1, hid h2, hid h3, hid (hU.on h3)⟩)))
  have CS := hid (fun (U : World) (p q : Option Addr) (c d : Nat) (hU : Pp w0 U O X B r m L p1 c1 p2 c2 pL cL) (h1 : Li U p c S) (h2 : Li U q d S) => (show Calls Tryz.prog 24 #[.slice p k c, .slice q k d] U fun e w' => e = .returned (.bool true) ∧ Hid (Below U.heap.size U w') ∧ Hid (Pp w0 w' O X B r m L p1 c1 p2 c2 pL cL) from by
    have := its_same p q c d S U h1 h2 (by rw [hk]; exact hkn)
    rw [hk] at this
    exact this.mono (fun e w' hh => ⟨hh.1, hid hh.2, hid (hU.on hh.2)⟩)))
  clear h hnL hS hk
  obtain ⟨k0, k1, k2, k3⟩ := HX.out w HP.out
  go_enter Tryz.func7, Tryz.ntmps7
  go_upto_region 2 with (go_at_call 23; with_reducible refine (CI.out _ HP.out).mono ?_; rintro e v1 ⟨p, c, rfl, HL, V1, HP1, HG⟩)
  clear k0 k1 k2 k3
  obtain ⟨k0, k1, k2, k3⟩ := HX.out v1 HP1.out
  go_upto_region 4 with (first | (go_at_call 25; with_reducible refine (CR.out _ HP1.out).mono ?_; rintro e v2 ⟨pd, cd, rfl, HLd, V2, HP2⟩) | (go_at_call 24; with_reducible refine (CS.out _ _ _ _ _ HP2.out (HL.out.on V2.out) HLd.out).mono ?_; rintro e v3 ⟨rfl, V3, HP3⟩))
  clear k0 k1 k2 k3
  have HOW := hid (show v3.ownsRow 0 35 6 (.slice p k c) k (its S) from by have := (HL.out.on V2.out).on V3.out; unfold Li at this; rw [HKK.out] at this; exact this)
  go_loopw [7] (fun iv wr => ∃ i : Nat, i ≤ k ∧ iv = .int .i64 i ∧ Hid (∃ xs, wr.ownsRow 0 35 6 (.slice p k c) k xs) ∧ Hid (Kp (fun j => OfP p j) v3 wr)) (fun iv _ => k - (intOf iv).toNat)
  case atStart => exact ⟨0, Nat.zero_le _, rfl, hid ⟨_, HOW.out⟩, hid (Kp.refl _ _)⟩
  case round =>
    obtain ⟨i, hik, rfl, HXS, HKP⟩ := hrel
    by_cases hlt : i < k
    · obtain ⟨xs, hxs⟩ := HXS.out
      obtain ⟨g, hp, hcl⟩ := own_any hxs (by omega)
      subst hp
      have HXX := hid hxs
      obtain ⟨⟨u0, a0⟩, f0⟩ := hcl (i * 6) (by omega)
      obtain ⟨⟨u1, a1⟩, f1⟩ := hcl (i * 6 + 1) (by omega)
      obtain ⟨⟨u2, a2⟩, f2⟩ := hcl (i * 6 + 2) (by omega)
      obtain ⟨⟨u3, a3⟩, f3⟩ := hcl (i * 6 + 3) (by omega)
      obtain ⟨⟨u4, a4⟩, f4⟩ := hcl (i * 6 + 4) (by omega)
      obtain ⟨⟨u5, a5⟩, f5⟩ := hcl (i * 6 + 5) (by omega)
      have i0' : (0 : Int) ≤ (i : Int) := by omega
      have i1 : (i : Int) < (k : Int) := by omega
      clear hcl hxs
      go_wp2
      go_roundw
      case rel =>
        refine ⟨i + 1, by omega, by go_num, hid ?_, hid ?_⟩
        · obtain ⟨y0, e0⟩ := own_set HXX.out (OfP.mk g) (i * 6) (.int .u64 4711)
          obtain ⟨y1, e1⟩ := own_set e0 (OfP.mk g) (i * 6 + 1) (.int .u32 0)
          obtain ⟨y2, e2⟩ := own_set e1 (OfP.mk g) (i * 6 + 2) (.int .i64 0)
          obtain ⟨y3, e3⟩ := own_set e2 (OfP.mk g) (i * 6 + 3) (.int .i64 0)
          obtain ⟨y4, e4⟩ := own_set e3 (OfP.mk g) (i * 6 + 4) (.int .i64 0)
          obtain ⟨y5, e5⟩ := own_set e4 (OfP.mk g) (i * 6 + 5) (.int .u64 9)
          exact ⟨y5, e5⟩
        · exact HKP.out.trans ((((((Kp.set wr g (i * 6) _).trans (Kp.set _ g (i * 6 + 1) _) (fun _ _ h => h)).trans (Kp.set _ g (i * 6 + 2) _) (fun _ _ h => h)).trans (Kp.set _ g (i * 6 + 3) _) (fun _ _ h => h)).trans (Kp.set _ g (i * 6 + 4) _) (fun _ _ h => h)).trans (Kp.set _ g (i * 6 + 5) _) (fun _ _ h => h)) (fun j _ e => by subst e; exact OfP.mk j)
      case measure => simp [intOf]; omega
    · obtain rfl : i = k := by omega
      obtain ⟨xs, hxs⟩ := HXS.out
      have HOA := hid (own_on hxs (ball wr (.cells #[.int .u64 4712, .int .u32 0, .int .i64 0, .int .i64 0, .int .i64 0, .int .u64 0] 35)))
      have HON := hid (made6 wr ⟨4712, 0, 0, 0, 0, 0⟩)
      clear hxs
      go_upto_region 8 with (at_builtin; refine wpList_app_mine (by rfl) (.tmp 32) (.tmp 34) 27 35 _ 6 48 (by rfl) Tryz.underlying27 infoIt rfl (by decide) 0 0 _ i _ (by rfl) HOA.out _ 1 1 _ (by rfl) HON.out (irow_one _) (by unfold maxLen; omega) (by omega) (by simp) ?_; intro v' w4 hown hgrow; obtain ⟨p9, q9, rfl⟩ := own_form hown; have HG1 := hid hgrow; clear hown hgrow)
      have HK4 := hid (show Kp (fun b => OfP p b) wr w4 from ⟨HG1.out.os, HG1.out.tape, HG1.out.output, Nat.le_trans (by simp) HG1.out.size, fun b hb hB => (HG1.out.block b (by simp; omega) (fun e => hB (own_ofp HOA.out e.symm))).trans ((ball wr _).block b hb)⟩)
      have HKW := hid (HKP.out.trans HK4.out (fun _ _ h => h))
      have hsz : w.heap.size ≤ v1.heap.size := V1.out.size
      have HFP := hid (show ∀ g, OfP p g → w.heap.size ≤ g from HG.out)
      have HP4 := hid (HP3.out.kept HKW.out (fun g hg e => by have h1 := (HP.out.og g hg).2; have h2 := HG.out g e; omega) (fun g hg e => by have h1 := HP.out.be.size; have h2 := HG.out g e; omega))
      obtain ⟨k0, k1, k2, k3⟩ := HX.out w4 HP4.out
      go_region_held3 (fun U => U.cell? ⟨X, 0, none⟩ = some (.pointer (some ⟨B, 0, none⟩)) ∧ U.cell? ⟨X, 1, none⟩ = some (.int .i64 r) ∧ U.cell? ⟨X, 2, none⟩ = some (.int .i64 m) ∧ U.cell? ⟨X, 3, none⟩ = some (.slice pL nL cL)) (go_keep) (first | (go_at_call 23; with_reducible refine (CI.out _ (HP4.out.on (bdrew1 w4))).mono ?_; rintro e w5 ⟨p5, c5, rfl, HL5, V5, HP5, HG5⟩; obtain ⟨k0, k1, k2, k3⟩ := HX.out w5 HP5.out) | (go_at_call 25; with_reducible refine (CR.out _ HP5.out).mono ?_; rintro e w6 ⟨p6, c6, rfl, HL6, V6, HP6⟩; obtain ⟨k0, k1, k2, k3⟩ := HX.out w6 HP6.out) | (go_at_call 24; with_reducible refine (CS.out _ _ _ _ _ HP6.out (HL5.out.on V6.out) HL6.out).mono ?_; rintro e w7 ⟨rfl, V7, HP7⟩; obtain ⟨k0, k1, k2, k3⟩ := HX.out w7 HP7.out))
      go_wp2
      go_ret
      refine ⟨rfl, O, ⟨_, _, _, _, _, _, _, _, _, _, HP7.out⟩, ?_, fun g hg => .inl hg⟩
      have a1 := Kp.of O (btr (btr V1.out V2.out) V3.out)
      have a2 : Kp O w w4 := a1.trans HKW.out (fun g hg e => absurd (HFP.out g e) (by omega))
      exact a2.trans (Kp.of O (btr (bdrew1 w4) (btr V5.out (btr V6.out V7.out)))) (fun _ _ h => h)
end Go.Proofs.YtnmkfdndfhefiaaGreat
