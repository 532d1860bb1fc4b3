/-
  Drop: of an ID that is there.
-/
import Derived.Test.YtknikhoobhgidaaDrA
namespace Go.Proofs.Ytknikhoobhgidaa
open Go.RowKit Go.Deep Go.Shelf
set_option linter.unusedVariables false
set_option linter.unusedSimpArgs false
set_option maxHeartbeats 4000000
set_option maxRecDepth 100000
/-- all but one. -/
def cutAt (i : Nat) (l : List It) : List It := l.take i ++ l.drop (i + 1)
theorem cutAt_len {i : Nat} {l : List It} (hi : i < l.length) : (cutAt i l).length + 1 = l.length := by unfold cutAt; rw [List.length_append, List.length_take, List.length_drop]; omega
theorem cutAt_sub (i : Nat) (l : List It) : (cutAt i l).Sublist l := by
  have h : (l.take i ++ l.drop (i + 1)).Sublist (l.take i ++ l.drop i) := List.Sublist.append (List.Sublist.refl _) (by rw [← List.drop_drop]; exact List.drop_sublist _ _)
  rw [List.take_append_drop] at h
  exact h
theorem Sd.sub {s : Int} {l l' : List It} (h : Sd s l) (hs : l'.Sublist l) : Sd s l' := ⟨fun x hx => h.ok x (hs.subset hx), h.so.sublist hs, Nat.le_trans hs.length_le h.ln⟩
theorem drop_buy (B : Nat) (r m : Int) (p1 : Option Addr) (c1 : Nat) (b : List It) (p2 : Option Addr) (c2 : Nat) (s : List It) (id : Int) (i : Nat) (w : World) (h : Cl w B r m p1 c1 b p2 c2 s) (hf : fni id b = i) (hi : i < b.length) :
    Calls Try.prog 20 #[.pointer (some ⟨B, 0, none⟩), .int .u64 id] w fun e w' => (∃ v, e = .returned v) ∧ Cl w' B r m p1 c1 (cutAt i b) p2 c2 s ∧ Kp (fun j => j = B ∨ OfP p1 j ∨ OfP p2 j) w w' := by
  obtain ⟨R, hR⟩ : ∃ R, w.heap.size = R := ⟨_, rfl⟩
  obtain ⟨W, hW⟩ : ∃ W, w.alloc (.cells #[.int .u64 0, .int .u32 0, .int .i64 0, .int .i64 0, .int .i64 0, .int .u64 0] 36) = W := ⟨_, rfl⟩
  have HBW := hid (show Below w.heap.size w W from by rw [← hW]; exact ball _ _)
  have HZ := hid (show W.heap[R]? = some (.cells #[.int .u64 0, .int .u32 0, .int .i64 0, .int .i64 0, .int .i64 0, .int .u64 0] 36 (0, 0)) from by rw [← hW, ← hR]; exact World.alloc_heap_new _ _)
  have HC := hid h
  have CF := hid (find_any p1 c1 b id W (h.l1.on HBW.out) h.s1.ln)
  rw [hf] at CF
  have CD := hid (fun (U : World) (hU : Below W.heap.size W U) => ldrop_any B 2 _ p1 c1 b i U (row_on (row_on h.row HBW.out) hU) rfl ((h.l1.on HBW.out).on hU) hi h.s1.ln)
  change Hid (∀ (U : World), Below W.heap.size W U → Calls Try.prog 36 #[.pointer (some ⟨B, 2, none⟩), .int .i64 i] U fun e w' => (∃ v, e = .returned (.agg v) ∧ v.size = 6 ∧ v.all (·.oneCell') = true) ∧ w'.heap[B]? = some (.cells #[.int .i64 r, .int .i64 m, .slice p1 (cutAt i b).length c1, .slice p2 s.length c2] 68 (0, 0)) ∧ Li w' p1 c1 (cutAt i b) ∧ Kp (fun b => b = B ∨ OfP p1 b) U w') at CD
  obtain ⟨k0, k1, k2, k3⟩ := (h.on HBW.out).cells
  obtain ⟨n1, hn1⟩ : ∃ n, b.length = n := ⟨_, rfl⟩
  rw [hn1] at CF k2
  have sB := row_lt h.row
  have i0 : (0 : Int) ≤ (i : Int) := by omega
  have HPB := hid (show ∀ g, OfP p1 g → g < w.heap.size from fun g hg => by obtain ⟨cu, hc⟩ := h.l1.ty hg; exact row_lt hc)
  have HI := hid hi
  have HW := hid hW
  have HRR := hid hR
  clear h hW hR hf hn1 hi
  go_enter Try.func20, Try.ntmps20
  go_upto_region 1 with fail
  rw [HW.out, HRR.out]
  go_upto_region 2 with fail
  go_loopw [8] (fun iv wr => iv = .int .i64 0 ∧ Hid (W = wr)) (fun iv _ => 1)
  case atStart => exact ⟨rfl, hid rfl⟩
  case round =>
    obtain ⟨rfl, HWR⟩ := hrel
    have hw := HWR.out
    subst hw
    go_upto_region 6 with (go_at_call 35; with_reducible refine (CF.out).mono ?_; rintro e v1 ⟨rfl, hb⟩; have V1 := hid hb; clear hb)
    go_wp2_with (first | (go_at_call 36; refine (CD.out _ V1.out).mono ?_; rintro e v2 ⟨⟨v, rfl, v6, va⟩, h1, h2, h3⟩; have H1 := hid h1; have H2 := hid h2; have H3 := hid h3; have AI := hid (show (Try.prog.info? 36).map (·.size) = some v.size from by rw [v6]; exact infoI6); have AS := hid (show (#[.int .u64 0, .int .u32 0, .int .i64 0, .int .i64 0, .int .i64 0, .int .u64 0] : Array Value).size = v.size from v6.symm); have AA := hid va; have HRV := hid (h3.row (row_on HZ.out V1.out) (fun e => e.elim (fun e => by have := HRR.out; omega) (fun e => by have := HPB.out R e; have := HRR.out; omega))); clear h1 h2 h3 v6 va) | (refine wpList_store_row (by rfl) 36 (.tmp 4) (.tmp 27) (by rfl) R v (by rfl) (by rfl) 36 _ HRV.out AI.out AS.out AA.out ?_))
    have kq := setRow_kp v2 R v
    have hRB : B ≠ R := by have := HRR.out; omega
    have hc := HC.out
    have hRp : ∀ g, OfP p1 g ∨ OfP p2 g → g ≠ R := fun g hg e => by
      have := HRR.out
      rcases hg with hg | hg
      · obtain ⟨cu, hcu⟩ := hc.l1.ty hg; have := row_lt hcu; omega
      · obtain ⟨cu, hcu⟩ := hc.l2.ty hg; have := row_lt hcu; omega
    have hk2 : Kp (fun j => j = B ∨ OfP p1 j ∨ OfP p2 j) w v2 := ((Kp.of _ (btr HBW.out V1.out))).trans H3.out (fun g _ e => e.elim .inl (fun e => .inr (.inl e)))
    refine bodyPost_ret (res_ct (fn := Try.f20) Try.results20 _ _ R 36 v (0, 0) _ (.bool true) (by rfl) (by rfl) (setRow_heap _ _ _ _ 36 (0, 0) HRV.out) Try.underlying36 rfl AI.out) rfl ⟨⟨_, rfl⟩, ⟨kq.row H1.out hRB, H2.out.kept kq (fun g hg e => hRp g (.inl hg) e), ?_, hc.s1.sub (cutAt_sub i b), hc.s2, hc.ap, hc.r0, hc.r1, hc.m0, hc.m1, ?_⟩, hk2.trans kq (fun g hg e => absurd hg (by have := HRR.out; omega))⟩
    · refine ((hc.l2.on (btr HBW.out V1.out)).kept H3.out (fun g hg e => ?_)).kept kq (fun g hg e => hRp g (.inr hg) e)
      rcases e with e | e
      · obtain ⟨cu, hcu⟩ := hc.l2.ty hg; exact row_ne hcu hc.row (by decide) e
      · exact hc.ap g e hg
    · have := hc.mb; have := cutAt_len HI.out; omega
theorem drop_sell (B : Nat) (r m : Int) (p1 : Option Addr) (c1 : Nat) (b : List It) (p2 : Option Addr) (c2 : Nat) (s : List It) (id : Int) (i : Nat) (w : World) (h : Cl w B r m p1 c1 b p2 c2 s) (hf0 : fni id b = -1) (hf : fni id s = i) (hi : i < s.length) :
    Calls Try.prog 20 #[.pointer (some ⟨B, 0, none⟩), .int .u64 id] w fun e w' => (∃ v, e = .returned v) ∧ Cl w' B r m p1 c1 b p2 c2 (cutAt i s) ∧ Kp (fun j => j = B ∨ OfP p1 j ∨ OfP p2 j) w w' := by
  obtain ⟨R, hR⟩ : ∃ R, w.heap.size = R := ⟨_, rfl⟩
  obtain ⟨W, hW⟩ : ∃ W, w.alloc (.cells #[.int .u64 0, .int .u32 0, .int .i64 0, .int .i64 0, .int .i64 0, .int .u64 0] 36) = W := ⟨_, rfl⟩
  have HBW := hid (show Below w.heap.size w W from by rw [← hW]; exact ball _ _)
  have HZ := hid (show W.heap[R]? = some (.cells #[.int .u64 0, .int .u32 0, .int .i64 0, .int .i64 0, .int .i64 0, .int .u64 0] 36 (0, 0)) from by rw [← hW, ← hR]; exact World.alloc_heap_new _ _)
  have HC := hid h
  have CF0 := hid (find_any p1 c1 b id W (h.l1.on HBW.out) h.s1.ln)
  rw [hf0] at CF0
  have CF := hid (fun (U : World) (hU : Below W.heap.size W U) => find_any p2 c2 s id U ((h.l2.on HBW.out).on hU) h.s2.ln)
  rw [hf] at CF
  have CD := hid (fun (U : World) (hU : Below W.heap.size W U) => ldrop_any B 3 _ p2 c2 s i U (row_on (row_on h.row HBW.out) hU) rfl ((h.l2.on HBW.out).on hU) hi h.s2.ln)
  change Hid (∀ (U : World), Below W.heap.size W U → Calls Try.prog 36 #[.pointer (some ⟨B, 3, none⟩), .int .i64 i] U fun e w' => (∃ v, e = .returned (.agg v) ∧ v.size = 6 ∧ v.all (·.oneCell') = true) ∧ w'.heap[B]? = some (.cells #[.int .i64 r, .int .i64 m, .slice p1 b.length c1, .slice p2 (cutAt i s).length c2] 68 (0, 0)) ∧ Li w' p2 c2 (cutAt i s) ∧ Kp (fun b => b = B ∨ OfP p2 b) U w') at CD
  have HK := hid (show ∀ U, Below W.heap.size W U → U.cell? ⟨B, 2, none⟩ = some (.slice p1 b.length c1) ∧ U.cell? ⟨B, 3, none⟩ = some (.slice p2 s.length c2) from fun U hU => ⟨((h.on HBW.out).on hU).cells.2.2.1, ((h.on HBW.out).on hU).cells.2.2.2⟩)
  obtain ⟨n1, hn1⟩ : ∃ n, b.length = n := ⟨_, rfl⟩
  obtain ⟨n2, hn2⟩ : ∃ n, s.length = n := ⟨_, rfl⟩
  rw [hn1] at CF0 HK
  rw [hn2] at CF HK
  have sB := row_lt h.row
  have i0 : (0 : Int) ≤ (i : Int) := by omega
  have HPB := hid (show ∀ g, OfP p2 g → g < w.heap.size from fun g hg => by obtain ⟨cu, hc⟩ := h.l2.ty hg; exact row_lt hc)
  have HI := hid hi
  have HW := hid hW
  have HRR := hid hR
  clear h hW hR hf hn1 hn2 hi hf0
  go_enter Try.func20, Try.ntmps20
  go_upto_region 1 with fail
  rw [HW.out, HRR.out]
  go_upto_region 2 with fail
  go_loopw [8] (fun iv wr => ∃ k : Nat, k ≤ 1 ∧ iv = .int .i64 k ∧ Hid (k = 0 → W = wr) ∧ Hid (Below W.heap.size W wr)) (fun iv _ => 2 - (intOf iv).toNat)
  case atStart => exact ⟨0, by omega, rfl, hid (fun _ => rfl), hid (Below.refl _ _)⟩
  case round =>
    obtain ⟨k, hk, rfl, HWR, HBR⟩ := hrel
    by_cases h0 : k = 0
    · subst h0
      have hw := HWR.out rfl
      subst hw
      obtain ⟨k2, k3⟩ := HK.out W (Below.refl _ _)
      go_wp2_with (go_at_call 35; with_reducible refine (CF0.out).mono ?_; rintro e v1 ⟨rfl, hb⟩; have V1 := hid hb; clear hb)
      go_roundw
      case rel => exact ⟨1, by omega, by go_num, hid (fun e => by omega), hid V1.out⟩
      case measure => simp [intOf]
    · obtain rfl : k = 1 := by omega
      obtain ⟨k2, k3⟩ := HK.out wr HBR.out
      go_upto_region 6 with (go_at_call 35; with_reducible refine (CF.out _ HBR.out).mono ?_; rintro e v1 ⟨rfl, hb⟩; have V1 := hid (btr HBR.out hb); clear hb)
      go_wp2_with (first | (go_at_call 36; refine (CD.out _ V1.out).mono ?_; rintro e v2 ⟨⟨v, rfl, v6, va⟩, h1, h2, h3⟩; have H1 := hid h1; have H2 := hid h2; have H3 := hid h3; have AI := hid (show (Try.prog.info? 36).map (·.size) = some v.size from by rw [v6]; exact infoI6); have AS := hid (show (#[.int .u64 0, .int .u32 0, .int .i64 0, .int .i64 0, .int .i64 0, .int .u64 0] : Array Value).size = v.size from v6.symm); have AA := hid va; have HRV := hid (h3.row (row_on HZ.out V1.out) (fun e => e.elim (fun e => by have := HRR.out; omega) (fun e => by have := HPB.out R e; have := HRR.out; omega))); clear h1 h2 h3 v6 va) | (refine wpList_store_row (by rfl) 36 (.tmp 4) (.tmp 27) (by rfl) R v (by rfl) (by rfl) 36 _ HRV.out AI.out AS.out AA.out ?_))
      have kq := setRow_kp v2 R v
      have hRB : B ≠ R := by have := HRR.out; omega
      have hc := HC.out
      have hRp : ∀ g, OfP p1 g ∨ OfP p2 g → g ≠ R := fun g hg e => by
        have := HRR.out
        rcases hg with hg | hg
        · obtain ⟨cu, hcu⟩ := hc.l1.ty hg; have := row_lt hcu; omega
        · obtain ⟨cu, hcu⟩ := hc.l2.ty hg; have := row_lt hcu; omega
      have hk2 : Kp (fun j => j = B ∨ OfP p1 j ∨ OfP p2 j) w v2 := ((Kp.of _ (btr HBW.out V1.out))).trans H3.out (fun g _ e => e.elim .inl (fun e => .inr (.inr e)))
      refine bodyPost_ret (res_ct (fn := Try.f20) Try.results20 _ _ R 36 v (0, 0) _ (.bool true) (by rfl) (by rfl) (setRow_heap _ _ _ _ 36 (0, 0) HRV.out) Try.underlying36 rfl AI.out) rfl ⟨⟨_, rfl⟩, ⟨kq.row H1.out hRB, ?_, H2.out.kept kq (fun g hg e => hRp g (.inr hg) e), hc.s1, hc.s2.sub (cutAt_sub i s), hc.ap, hc.r0, hc.r1, hc.m0, hc.m1, ?_⟩, hk2.trans kq (fun g hg e => absurd hg (by have := HRR.out; omega))⟩
      · refine ((hc.l1.on (btr HBW.out V1.out)).kept H3.out (fun g hg e => ?_)).kept kq (fun g hg e => hRp g (.inl hg) e)
        rcases e with e | e
        · obtain ⟨cu, hcu⟩ := hc.l1.ty hg; exact row_ne hcu hc.row (by decide) e
        · exact hc.ap g hg e
      · have := hc.mb; have := cutAt_len HI.out; omega
end Go.Proofs.Ytknikhoobhgidaa
