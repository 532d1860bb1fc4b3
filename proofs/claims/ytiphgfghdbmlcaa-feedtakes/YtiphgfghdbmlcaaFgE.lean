/-
  A message is held; a level's message is done.
-/
import Derived.Test.YtiphgfghdbmlcaaFgD
namespace Go.Proofs.Ytiphgfghdbmlcaa
open Go.RowKit Go.Deep
set_option linter.unusedVariables false
set_option linter.unusedSimpArgs false
set_option maxHeartbeats 4000000
set_option maxRecDepth 100000
theorem map_ne {w : World} {M g nm : Nat} {L : List Dm} {cs : Array Value} {t : TypeId} (h : Hm w M nm L) (hg : w.heap[g]? = some (.cells cs t (0, 0))) : M ≠ g := by
  rintro rfl
  obtain ⟨es, cl, e⟩ := h.obj
  rw [e] at hg
  cases hg
theorem keep_any {w : World} {S M nm : Nat} {sq hold gr : Int} {p1 : Option Addr} {c1 : Nat} {l1 : List Lv} {p2 : Option Addr} {c2 : Nat} {l2 : List Lv} {L : List Dm} {la : Dm} (h : Sb w S M nm sq hold gr p1 c1 l1 p2 c2 l2 L la) (d : Dm) (hd : 0 ≤ d.sq ∧ d.sq < 18446744073709551616) (hx : L.any (fun x => x.sq == d.sq) = false) (hr : (L.length : Int) < hold) (hn : nm < maxLen) :
    Calls Try.prog 58 #[.pointer (some ⟨S, 0, none⟩), .agg #[.int .u64 d.sq, .int .i64 d.kd, .int .i64 d.sd, .int .i64 d.pr, .int .u64 d.qt, .int .i64 d.ct]] w fun e w' => e = .returned (.tuple #[]) ∧ Sb w' S M (nm + 1) sq hold gr p1 c1 l1 p2 c2 l2 (L ++ [d]) la ∧ Kp (fun g => g = M) w w' := by
  obtain ⟨R, hR⟩ : ∃ R, w.heap.size = R := ⟨_, rfl⟩
  obtain ⟨W, hW⟩ : ∃ W, w.alloc (.cells #[.int .u64 d.sq, .int .i64 d.kd, .int .i64 d.sd, .int .i64 d.pr, .int .u64 d.qt, .int .i64 d.ct] 48) = W := ⟨_, rfl⟩
  have hb0 : Below w.heap.size w W := by rw [← hW]; exact ball _ _
  have HD := hid (show W.heap[R]? = some (.cells #[.int .u64 d.sq, .int .i64 d.kd, .int .i64 d.sd, .int .i64 d.pr, .int .u64 d.qt, .int .i64 d.ct] 48 (0, 0)) from by rw [← hW, ← hR]; exact World.alloc_heap_new _ _)
  have HS := hid (h.on hb0)
  have HB := hid hb0
  have HW := hid hW
  have HR := hid hR
  have HLN := hid (fun (U : World) (hU : Below W.heap.size W U) (ty : TypeId) => (HS.out.hm.on hU).len ty)
  have hlen : ∀ n ty, (Builtin.len_ #[90] ty #[.map (some M)]).run Try.prog (W.drewN n) = .ok (.int .i64 L.length) (W.drewN n) := fun n ty => HLN.out _ (bdrew _ _) ty
  obtain ⟨k0, k1, k2, k3, k4, k5⟩ := row12 HS.out.row
  obtain ⟨j0, j1, j2, j3, j4, j5⟩ := row6 HD.out
  obtain ⟨n, hn'⟩ : ∃ n, L.length = n := ⟨_, rfl⟩
  have HNN := hid hn'
  rw [hn'] at hlen hr
  clear h hb0 hW hR k0 k1 k2 k5 hn'
  go_enter Try.func58, Try.ntmps58
  go_upto_region 1 with fail
  rw [HW.out, HR.out]
  go_quiet (fail)
  go_upto_region 2 with fail
  obtain ⟨U, hU⟩ : ∃ U, W.drewN nq = U := ⟨_, rfl⟩
  have BU := hid (show Below W.heap.size W U from by rw [← hU]; exact bdrew _ _)
  rw [hU]
  clear hU hlen k3 k4 j0 j1 j2 j3 j4 j5
  have HSu := hid (HS.out.on BU.out)
  have HDu := hid (row_on HD.out BU.out)
  obtain ⟨k0, k1, k2, k3, k4, k5⟩ := row12 HSu.out.row
  obtain ⟨j0, j1, j2, j3, j4, j5⟩ := row6 HDu.out
  obtain ⟨V, hrun, hm, hk⟩ := (HSu.out.hm.on (bdrew1 U)).put hn d hd hx
  have HM := hid hm
  have HK := hid hk
  clear k0 k1 k2 k3 k5 hm hk
  go_region_law fail
  all_goals
    go_wp2
    go_end0
    refine ⟨rfl, ?_, ?_⟩
    · have hs := HSu.out.on (bdrew1 U)
      exact ⟨HK.out.row hs.row (fun e => map_ne hs.hm hs.row e.symm), hs.o1.kept HK.out (fun g hg e => by obtain ⟨cu, hc⟩ := hs.o1.ty hg; exact map_ne hs.hm hc e.symm), hs.o2.kept HK.out (fun g hg e => by obtain ⟨cu, hc⟩ := hs.o2.ty hg; exact map_ne hs.hm hc e.symm), hs.k1, hs.k2, HM.out, hs.sq, hs.gr⟩
    · exact (Kp.of _ (btr (btr HB.out BU.out) (bdrew1 U))).trans HK.out (fun _ _ h => h)
theorem do_sell {w : World} {S M nm : Nat} {sq hold gr : Int} {p1 : Option Addr} {c1 : Nat} {l1 : List Lv} {p2 : Option Addr} {c2 : Nat} {l2 : List Lv} {L : List Dm} {la : Dm} (h : Sb w S M nm sq hold gr p1 c1 l1 p2 c2 l2 L la) (d : Dm) (hq : 0 ≤ d.sq ∧ d.sq < 18446744073709551616) (hk : d.kd = 1) (hsd : d.sd = 2) (hd : dgn d = false) (ha : ∀ k (hk : k < l2.length), bt 2 l2[k].pr d.pr = true) (hnew : Lok 2 (l2 ++ [⟨d.pr, d.qt, d.ct⟩])) (ap : ∀ g, OfP p1 g → ¬ OfP p2 g) :
    Calls Try.prog 59 #[.pointer (some ⟨S, 0, none⟩), .agg #[.int .u64 d.sq, .int .i64 d.kd, .int .i64 d.sd, .int .i64 d.pr, .int .u64 d.qt, .int .i64 d.ct]] w fun e w' => e = .returned (.tuple #[]) ∧ ∃ q c', Sb w' S M nm d.sq hold gr p1 c1 l1 q c' (l2 ++ [⟨d.pr, d.qt, d.ct⟩]) L la ∧ Kp (fun g => g = S ∨ OfP p2 g) w w' ∧ Fr w.heap.size p2 q := by
  obtain ⟨R, hR⟩ : ∃ R, w.heap.size = R := ⟨_, rfl⟩
  obtain ⟨W, hW⟩ : ∃ W, w.alloc (.cells #[.int .u64 d.sq, .int .i64 d.kd, .int .i64 d.sd, .int .i64 d.pr, .int .u64 d.qt, .int .i64 d.ct] 48) = W := ⟨_, rfl⟩
  have hb0 : Below w.heap.size w W := by rw [← hW]; exact ball _ _
  have HD := hid (show W.heap[R]? = some (.cells #[.int .u64 d.sq, .int .i64 d.kd, .int .i64 d.sd, .int .i64 d.pr, .int .u64 d.qt, .int .i64 d.ct] 48 (0, 0)) from by rw [← hW, ← hR]; exact World.alloc_heap_new _ _)
  have HS := hid (h.on hb0)
  have HB := hid hb0
  have HW := hid hW
  have HR := hid hR
  have CE := hid (change_end 0 p2 c2 l2 d W.drew (HS.out.o2.on (bdrew1 W)) (by rw [hsd]; exact h.k2) hd (by rw [hsd]; exact ha) (Nat.zero_le _))
  have q1 : (d.kd == 2) = false := by simp [hk]
  have q2 : (d.sd == 1) = false := by simp [hsd]
  obtain ⟨n2, hn2⟩ : ∃ n, l2.length = n := ⟨_, rfl⟩
  have HN := hid hn2
  obtain ⟨k0, k1, k2, k3, k4, k5⟩ := row12 HS.out.row
  obtain ⟨j0, j1, j2, j3, j4, j5⟩ := row6 HD.out
  rw [hn2] at CE k2
  have HNW := hid hnew
  have HAP := hid ap
  clear h hb0 hW hR k0 k1 k3 k4 k5 hk hsd hd ha hn2 hnew ap
  go_enter Try.func59, Try.ntmps59
  go_upto_region 2 with fail
  rw [HW.out, HR.out]
  go_upto_region 1 with fail
  have LW := hid (show ∀ (q : Option Addr) (c' : Nat) (w1 : World), Kp (fun g => OfP p2 g) W.drew w1 → w1.heap[S]? = some (.cells #[.int .u64 sq, .slice p1 l1.length c1, .slice p2 l2.length c2, .int .i64 hold, .map (some M), .int .u64 gr, .int .u64 la.sq, .int .i64 la.kd, .int .i64 la.sd, .int .i64 la.pr, .int .u64 la.qt, .int .i64 la.ct] 92 (0, 0)) ∧ w1.heap[R]? = some (.cells #[.int .u64 d.sq, .int .i64 d.kd, .int .i64 d.sd, .int .i64 d.pr, .int .u64 d.qt, .int .i64 d.ct] 48 (0, 0)) from fun q c' w1 hk => by
    have hs := HS.out.on (bdrew1 W)
    refine ⟨hk.row hs.row (fun e => ?_), hk.row (row_on HD.out (bdrew1 W)) (fun e => ?_)⟩
    · obtain ⟨cu, hc⟩ := hs.o2.ty e; exact row_ne hc hs.row (by decide) rfl
    · obtain ⟨cu, hc⟩ := hs.o2.ty e; exact row_ne hc (row_on HD.out (bdrew1 W)) (by decide) rfl)
  go_region_law (go_simp; go_at_call 66; with_reducible refine (CE.out).mono ?_; rintro e w1 ⟨q, c', rfl, h1, h2, h3⟩; have F1 := hid h1; have F2 := hid h2; have F3 := hid h3; obtain ⟨g1, g2⟩ := LW.out q c' w1 h2; have G1 := hid g1; have G2 := hid g2; have z2 := row_cell g1 2; have z3 := row_frz g1 2; clear h1 h2 h3 g1 g2)
  all_goals
    clear z2 z3
    obtain ⟨V, hV⟩ : ∃ V, w1.setCell ⟨S, 2, none⟩ (.slice q (n2 + 1) c') = V := ⟨_, rfl⟩
    have GV := hid (show V.heap[S]? = some (.cells #[.int .u64 sq, .slice p1 l1.length c1, .slice q (n2 + 1) c', .int .i64 hold, .map (some M), .int .u64 gr, .int .u64 la.sq, .int .i64 la.kd, .int .i64 la.sd, .int .i64 la.pr, .int .u64 la.qt, .int .i64 la.ct] 92 (0, 0)) from by rw [← hV]; exact set_row _ G1.out)
    have GD := hid (show V.heap[R]? = some (.cells #[.int .u64 d.sq, .int .i64 d.kd, .int .i64 d.sd, .int .i64 d.pr, .int .u64 d.qt, .int .i64 d.ct] 48 (0, 0)) from by rw [← hV]; exact set_oth _ G2.out (row_ne G2.out G1.out (by decide)))
    have KV := hid (show Kp (fun g => g = S) w1 V from by rw [← hV]; exact Kp.set _ _ _ _)
    rw [hV]
    clear hV
    have z0 := row_cell GV.out 0
    have z1 := row_frz GV.out 0
    obtain ⟨t0, t1, t2, t3, t4, t5⟩ := row6 GD.out
    go_wp2
    go_end0
    refine ⟨rfl, q, c', ?_, ?_, F3.out.mono (by have := HB.out.size; simpa using this)⟩
    · have hs := HS.out.on (bdrew1 W)
      have K2 := KV.out.trans (Kp.set V S 0 (.int .u64 d.sq)) (fun _ _ h => h)
      have ns : ∀ g, (∃ cu, w1.heap[g]? = some (.cells cu 89 (0, 0))) → ¬ g = S := fun g hg e => by obtain ⟨cu, hc⟩ := hg; exact row_ne hc G1.out (by decide) e
      have o1 := hs.o1.kept F2.out (fun g hg => HAP.out g hg)
      have hM := hs.hm.kept F2.out (fun e => by obtain ⟨cu, hc⟩ := hs.o2.ty e; exact map_ne hs.hm hc rfl)
      refine ⟨?_, o1.kept K2 (fun g hg => ns g (o1.ty hg)), F1.out.kept K2 (fun g hg => ns g (F1.out.ty hg)), hs.k1, HNW.out, hM.kept K2 (fun e => map_ne hM G1.out e), hq, hs.gr⟩
      rw [List.length_append, HN.out]
      exact set_row _ GV.out
    · refine (((Kp.of _ (btr HB.out (bdrew1 W))).trans F2.out (fun _ _ h => .inr h)).trans KV.out (fun _ _ h => .inl h)).trans (Kp.set V S 0 (.int .u64 d.sq)) (fun _ _ h => .inl h)
end Go.Proofs.Ytiphgfghdbmlcaa
