/-
  A level put behind all others.
-/
import Derived.Test.YtiphgfghdbmlcaaHc
namespace Go.Proofs.Ytiphgfghdbmlcaa
open Go.RowKit Go.Deep
set_option linter.unusedVariables false
set_option linter.unusedSimpArgs false
set_option maxHeartbeats 4000000
set_option maxRecDepth 100000
theorem insert_end (b : Nat) (p : Option Addr) (c V : Nat) (l : List Lv) (x : Lv) (w : World) (h : Lo b w p c l) (hV : w.heap[V]? = some (.cells #[.int .i64 x.pr, .int .u64 x.qt, .int .i64 x.ct] 89 (0, 0))) (hl : l.length ≤ 262144) (hb : b ≤ w.heap.size) :
    Calls Try.prog 72 #[.slice p l.length c, .int .i64 l.length, .slice (some ⟨V, 0, none⟩) 1 1] w fun e w' => ∃ q d, e = .returned (.slice q (l.length + 1) d) ∧ Lo b w' q d (l ++ [x]) ∧ Kp (fun g => OfP p g) w w' ∧ Fr w.heap.size p q := by
  have hc := own_cap h
  have hc1 := hc.1
  have hc2 := hc.2.1
  unfold maxLen at hc2
  have HL := hid h
  have RN := hid (show ∀ ad, some (⟨V, 0, none⟩ : Addr) = some ad → ∀ j u, (lvc [x])[j]? = some u → w.cell? (ad.add j) = some u from by
    intro ad e j u hj
    injection e with e
    subst e
    rw [Addr.add_lit, Nat.zero_add, row_cell hV]
    simpa [lvc] using hj)
  have HLN := hid (lvc_len [x])
  have HB := hid hb
  have HNN := hid hc.2.2
  obtain ⟨n, hn⟩ : ∃ n, l.length = n := ⟨_, rfl⟩
  have HN := hid hn
  have HO := hid (show w.ownsRow b 89 3 (.slice p n c) n (lvc l) from by have := h; unfold Lo at this; rw [hn] at this; exact this)
  rw [hn] at hc1 hl HNN ⊢
  have q1 : ((n : Int) == (n : Int)) = true := by simp
  clear h hc hV hb hn
  obtain ⟨i0, hi, hz0, hz1, hz2⟩ := info_parts infoL3
  have HI := hid (And.intro hi (And.intro hz0 (And.intro hz1 hz2)))
  have FIN := hid (show ∀ (g cap : Nat) (w' : World), w'.ownsRow b 89 3 (.slice (some ⟨g, 0, none⟩) (n + 1) cap) (n + 1) (lvc l ++ lvc [x]) → w.grownBy w' (Value.slice p n c).ownBlock → ((Value.slice p n c).ownBlock = some g ∨ g = w.heap.size) → Lo b w' (some ⟨g, 0, none⟩) cap (l ++ [x]) ∧ Kp (fun g => OfP p g) w w' ∧ Fr w.heap.size p (some ⟨g, 0, none⟩) from fun g cap w' h1 h2 h3 => by
    refine ⟨?_, (Kp.refl _ _).grown h2 (fun j hj => own_blk HO.out hj), fun j hj => ?_⟩
    · unfold Lo
      rw [List.length_append, HN.out, lvc_app]
      exact h1
    · have e : j = g := OfP.eq hj
      subst e
      rcases h3 with h3 | h3
      · exact .inl (own_blk HO.out h3)
      · exact .inr (by omega))
  clear hi hz0 hz1 hz2
  cases p with
  | none =>
    obtain ⟨rfl, rfl⟩ := HNN.out rfl
    go_enter Try.func72, Try.ntmps72
    go_wp2_with (at_builtin; refine wpList_append_lies w (by rfl) (.tmp 23) (.tmp 24) 28 (by rfl) b 89 i0 _ 3 24 Try.underlying28 HI.out.1 HI.out.2.1 HI.out.2.2.1 HI.out.2.2.2 rfl (by decide) _ 0 (lvc l) (by rfl) HO.out ⟨V, 0, none⟩ 1 1 (lvc [x]) (by rfl) HLN.out (RN.out _ rfl) (lvc_one _) (by decide) (by unfold maxLen; omega) (by omega) HB.out _ rfl ?_; intro g cap w' h1 h2 h3 h4; have F := hid (FIN.out g cap w' h1 h2 h3); clear h1 h2 h3 h4)
    go_ret
    exact ⟨_, _, rfl, F.out.1, F.out.2.1, F.out.2.2⟩
  | some ad =>
    obtain ⟨m, hm⟩ : ∃ m, (n : Int) = m := ⟨_, rfl⟩
    clear hm m
    go_enter Try.func72, Try.ntmps72
    go_wp2_with (at_builtin; refine wpList_append_lies w (by rfl) (.tmp 23) (.tmp 24) 28 (by rfl) b 89 i0 _ 3 24 Try.underlying28 HI.out.1 HI.out.2.1 HI.out.2.2.1 HI.out.2.2.2 rfl (by decide) _ n (lvc l) (by rfl) HO.out ⟨V, 0, none⟩ 1 1 (lvc [x]) (by rfl) HLN.out (RN.out _ rfl) (lvc_one _) (by decide) (by unfold maxLen; omega) (by omega) HB.out _ rfl ?_; intro g cap w' h1 h2 h3 h4; have F := hid (FIN.out g cap w' h1 h2 h3); clear h1 h2 h3 h4)
    all_goals
      go_ret
      exact ⟨_, _, rfl, F.out.1, F.out.2.1, F.out.2.2⟩
theorem change_end (b : Nat) (p : Option Addr) (c : Nat) (l : List Lv) (d : Dm) (w : World) (h : Lo b w p c l) (ho : Lok d.sd l) (hd : dgn d = false) (ha : ∀ k (hk : k < l.length), bt d.sd l[k].pr d.pr = true) (hb : b ≤ w.heap.size) :
    Calls Try.prog 66 #[.slice p l.length c, .agg #[.int .u64 d.sq, .int .i64 d.kd, .int .i64 d.sd, .int .i64 d.pr, .int .u64 d.qt, .int .i64 d.ct]] w fun e w' => ∃ q c', e = .returned (.slice q (l.length + 1) c') ∧ Lo b w' q c' (l ++ [⟨d.pr, d.qt, d.ct⟩]) ∧ Kp (fun g => OfP p g) w w' ∧ Fr w.heap.size p q := by
  obtain ⟨R, hR⟩ : ∃ R, w.heap.size = R := ⟨_, rfl⟩
  obtain ⟨W, hW⟩ : ∃ W, w.alloc (.cells #[.int .u64 d.sq, .int .i64 d.kd, .int .i64 d.sd, .int .i64 d.pr, .int .u64 d.qt, .int .i64 d.ct] 48) = W := ⟨_, rfl⟩
  have hb0 : Below w.heap.size w W := by rw [← hW]; exact ball _ _
  have HD := hid (show W.heap[R]? = some (.cells #[.int .u64 d.sq, .int .i64 d.kd, .int .i64 d.sd, .int .i64 d.pr, .int .u64 d.qt, .int .i64 d.ct] 48 (0, 0)) from by rw [← hW, ← hR]; exact World.alloc_heap_new _ _)
  have G := hid (fun (U : World) => isGone_any d U)
  rw [hd] at G
  have CS := hid (bsearch_any R d.sd d.pr p c l W (h.rl.on hb0) ho (row_cell HD.out 2) (row_lt HD.out))
  have HLn := hid ho.len
  have HIns := hid (fun (U : World) (V : Nat) (hU : Below w.heap.size w U) (hV : U.heap[V]? = some (.cells #[.int .i64 d.pr, .int .u64 d.qt, .int .i64 d.ct] 89 (0, 0))) => insert_end b p c V l ⟨d.pr, d.qt, d.ct⟩ U (h.on hU) hV ho.len (Nat.le_trans hb hU.size))
  obtain ⟨n, hn⟩ : ∃ n, l.length = n := ⟨_, rfl⟩
  have HN := hid hn
  have HA := hid ha
  rw [hn] at CS HIns ⊢
  have HB := hid hb0
  have HW := hid hW
  have HR := hid hR
  obtain ⟨k0, k1, k2, k3, k4, k5⟩ := row6 HD.out
  clear h ho hd ha hb hb0 hW hR hn
  go_enter Try.func66, Try.ntmps66
  go_upto_region 1 with fail
  rw [HW.out, HR.out]
  go_upto_region 2 with (go_at_call 69; with_reducible refine (CS.out).mono ?_; rintro e w1 ⟨i, bb, rfl, hp, hb⟩; have HP := hid hp; have HB1 := hid hb; clear hp hb)
  have hin : i = n := by
    have := HP.out.le
    rw [HN.out] at this
    by_cases e : i < n
    · have h1 := HP.out.hi i (by have := HN.out; omega) (Nat.le_refl _)
      rw [HA.out i (by have := HN.out; omega)] at h1
      cases h1
    · omega
  subst hin
  have hbb : bb = false := by
    cases bb with
    | false => rfl
    | true => obtain ⟨h1, _⟩ := HP.out.b.1 rfl; have := HN.out; omega
  subst hbb
  clear k0 k1 k2 k3 k4 k5
  obtain ⟨k0, k1, k2, k3, k4, k5⟩ := row6 (row_on HD.out HB1.out)
  go_upto_region 3 with fail
  obtain ⟨W3, hW3⟩ : ∃ W3, w1.alloc (.cells #[.int .i64 d.pr, .int .u64 d.qt, .int .i64 d.ct] 89) = W3 := ⟨_, rfl⟩
  obtain ⟨R3, hR3⟩ : ∃ R3, w1.heap.size = R3 := ⟨_, rfl⟩
  have HB3 := hid (show Below W.heap.size W W3 from by rw [← hW3]; exact btr HB1.out (ball _ _))
  have HL3 := hid (show W3.heap[R3]? = some (.cells #[.int .i64 d.pr, .int .u64 d.qt, .int .i64 d.ct] 89 (0, 0)) from by rw [← hW3, ← hR3]; exact World.alloc_heap_new _ _)
  rw [hW3, hR3]
  clear hW3 hR3 k0 k1 k2 k3 k4 k5
  obtain ⟨k0, k1, k2, k3, k4, k5⟩ := row6 (row_on HD.out HB3.out)
  go_upto_region 8 with (go_at_call 63; with_reducible refine (G.out _).mono ?_; rintro e w4 ⟨rfl, hb⟩; have HB4 := hid (btr HB3.out hb); have HL4 := hid (row_on HL3.out hb); clear hb)
  obtain ⟨m0, m1, m2⟩ := row3 HL4.out
  have HV5 := hid (World.alloc_heap_new w4 (.cells #[.int .i64 d.pr, .int .u64 d.qt, .int .i64 d.ct] 89))
  have HB5 := hid (btr (btr HB.out HB4.out) (ball w4 (.cells #[.int .i64 d.pr, .int .u64 d.qt, .int .i64 d.ct] 89)))
  have CI := hid (HIns.out _ _ HB5.out HV5.out)
  go_wp2_with (go_at_call 72; with_reducible refine (CI.out).mono ?_; rintro e w6 ⟨q, c', rfl, h1, h2, h3⟩; have F1 := hid h1; have F2 := hid h2; have F3 := hid h3; clear h1 h2 h3)
  go_ret
  exact ⟨q, c', rfl, F1.out, (Kp.of _ HB5.out).trans F2.out (fun _ _ h => h), F3.out.mono HB5.out.size⟩
end Go.Proofs.Ytiphgfghdbmlcaa
