/-
  The document's does.
-/
import Derived.Test.YtiphgfghdbmlcaaFgN
import Derived.Test.YtiphgfghdbmlcaaFgJ
import Derived.Deep.MidRow
namespace Go.Proofs.Ytiphgfghdbmlcaa
open Go.RowKit Go.Deep
set_option linter.unusedVariables false
set_option linter.unusedSimpArgs false
set_option maxHeartbeats 8000000
set_option maxRecDepth 100000
theorem rDone_any (d : Dm) (hok : dOk d = true) (sq : Int) (p1 p2 : Option Addr) (c1 c2 : Nat) (l1 l2 : List Lv) (w : World) (h1 : Rl w p1 c1 l1) (h2 : Rl w p2 c2 l2) (b1 : l1.length ≤ 262144) (b2 : l2.length ≤ 262144) :
    Calls Try.prog 65 #[.agg #[.int .u64 sq, .slice p1 l1.length c1, .slice p2 l2.length c2], .agg #[.int .u64 d.sq, .int .i64 d.kd, .int .i64 d.sd, .int .i64 d.pr, .int .u64 d.qt, .int .i64 d.ct]] w fun e w' => ∃ q1 e1 q2 e2, e = .returned (.agg #[.int .u64 d.sq, .slice q1 (dnS 1 d l1).length e1, .slice q2 (dnS 2 d l2).length e2]) ∧ Rl w' q1 e1 (dnS 1 d l1) ∧ Rl w' q2 e2 (dnS 2 d l2) ∧ Sd w w' p1 c1 l1 q1 e1 (dnS 1 d l1) ∧ Sd w w' p2 c2 l2 q2 e2 (dnS 2 d l2) ∧ Below w.heap.size w w' := by
  have h' := (dOk_iff _).1 hok
  by_cases hk : d.kd = 1
  · by_cases hs : d.sd = 1
    · have e1 : dnS 1 d l1 = dnl d.sd (lvD d) (d.ct == 0) l1 := by simp [dnS, hk, hs]
      have e2 : dnS 2 d l2 = l2 := by simp [dnS, hk, hs]
      rw [e1, e2]
      exact rDone_b d hk hs sq p1 p2 c1 c2 l1 l2 w h1 h2 b1 b2
    · have hs2 : d.sd = 2 := by omega
      have e1 : dnS 1 d l1 = l1 := by simp [dnS, hk, hs]
      have e2 : dnS 2 d l2 = dnl d.sd (lvD d) (d.ct == 0) l2 := by simp [dnS, hk, hs2]
      rw [e1, e2]
      exact rDone_s d hk hs2 sq p1 p2 c1 c2 l1 l2 w h1 h2 b1 b2
  · have hk2 : d.kd = 2 := by omega
    have e1 : dnS 1 d l1 = l1 := by simp [dnS, hk]
    have e2 : dnS 2 d l2 = l2 := by simp [dnS, hk]
    rw [e1, e2]
    exact rDone_t d hk2 sq p1 p2 c1 c2 l1 l2 w h1 h2 b1 b2
theorem infoRS : (Try.prog.info? 57).map (·.size) = some 12 := by kernel_rfl
theorem dnS_len {s : Int} {d : Dm} {l : List Lv} : (dnS s d l).length ≤ l.length + 1 := by
  unfold dnS
  split
  · exact dnl_len _ _ _ _
  · omega
theorem row_there {w : World} {g : Nat} {t : TypeId} {cs : Array Value} (h : w.heap[g]? = some (.cells cs t (0, 0))) (o n : Nat) (hn : o + n ≤ cs.size) : w.there g o n := fun j hj => ⟨by rw [row_cell h, Array.getElem?_eq_getElem (by omega)]; rfl, row_frz h _⟩
theorem rdoes_t (d la : Dm) (hok : dOk d = true) (hk : d.kd = 2) (hd sq gr : Int) (p1 p2 p3 : Option Addr) (c1 c2 n3 c3 : Nat) (l1 l2 : List Lv) (w : World) (h1 : Rl w p1 c1 l1) (h2 : Rl w p2 c2 l2) (b1 : l1.length ≤ 262144) (b2 : l2.length ≤ 262144) :
    Calls Try.prog 56 #[.agg #[.int .i64 hd, .int .u64 sq, .slice p1 l1.length c1, .slice p2 l2.length c2, .slice p3 n3 c3, .int .u64 gr, .int .u64 la.sq, .int .i64 la.kd, .int .i64 la.sd, .int .i64 la.pr, .int .u64 la.qt, .int .i64 la.ct], .agg #[.int .u64 d.sq, .int .i64 d.kd, .int .i64 d.sd, .int .i64 d.pr, .int .u64 d.qt, .int .i64 d.ct]] w fun e w' => ∃ q1 e1 q2 e2, e = .returned (.agg #[.int .i64 hd, .int .u64 d.sq, .slice q1 (dnS 1 d l1).length e1, .slice q2 (dnS 2 d l2).length e2, .slice p3 n3 c3, .int .u64 gr, .int .u64 d.sq, .int .i64 d.kd, .int .i64 d.sd, .int .i64 d.pr, .int .u64 d.qt, .int .i64 d.ct]) ∧ Rl w' q1 e1 (dnS 1 d l1) ∧ Rl w' q2 e2 (dnS 2 d l2) ∧ Sd w w' p1 c1 l1 q1 e1 (dnS 1 d l1) ∧ Sd w w' p2 c2 l2 q2 e2 (dnS 2 d l2) ∧ Below w.heap.size w w' := by
  obtain ⟨n1, hn1⟩ : ∃ n, l1.length = n := ⟨_, rfl⟩
  obtain ⟨n2, hn2⟩ : ∃ n, l2.length = n := ⟨_, rfl⟩
  obtain ⟨m1, hm1⟩ : ∃ n, (dnS 1 d l1).length = n := ⟨_, rfl⟩
  obtain ⟨m2, hm2⟩ : ∃ n, (dnS 2 d l2).length = n := ⟨_, rfl⟩
  obtain ⟨R, hR⟩ : ∃ R, w.heap.size = R := ⟨_, rfl⟩
  obtain ⟨W, hW⟩ : ∃ W, ((w.alloc (.cells #[.int .i64 hd, .int .u64 sq, .slice p1 n1 c1, .slice p2 n2 c2, .slice p3 n3 c3, .int .u64 gr, .int .u64 la.sq, .int .i64 la.kd, .int .i64 la.sd, .int .i64 la.pr, .int .u64 la.qt, .int .i64 la.ct] 57)).alloc (.cells #[.int .u64 d.sq, .int .i64 d.kd, .int .i64 d.sd, .int .i64 d.pr, .int .u64 d.qt, .int .i64 d.ct] 48)).alloc (.cells #[.int .i64 0, .int .u64 0, .slice none 0 0, .slice none 0 0, .slice none 0 0, .int .u64 0, .int .u64 0, .int .i64 0, .int .i64 0, .int .i64 0, .int .u64 0, .int .i64 0] 57) = W := ⟨_, rfl⟩
  obtain ⟨hb0, x0, x1, x2⟩ := alloc3 hR hW
  have B1 := hid hb0
  have HP := hid x0
  have HD := hid x1
  have HZ := hid x2
  have HR := hid hR
  have HW := hid hW
  have H1 := hid h1
  have H2 := hid h2
  have CD := hid (rDone_any d hok sq p1 p2 c1 c2 l1 l2 W (h1.on hb0) (h2.on hb0) b1 b2)
  rw [hn1, hn2, hm1, hm2] at CD
  rw [hn1, hn2, hm1, hm2]
  have qk : (d.kd == 2) = true := by simp [hk]
  have k1 := row_cell x0 1
  have k2 := row_cell x0 2
  have k3 := row_cell x0 3
  obtain ⟨j0, j1, j2, j3, j4, j5⟩ := row6 x1
  clear h1 h2 b1 b2 hb0 x0 x1 x2 hW hR hn1 hn2 hm1 hm2 hk hok
  go_enter Try.func56, Try.ntmps56
  go_upto_region 1 with fail
  rw [HW.out, HR.out]
  have AI := hid (show ∀ a b c : Value, (Try.prog.info? 30).map (·.size) = some (#[a, b, c] : Array Value).size from fun _ _ _ => infoP)
  go_upto_region 2 with (first | (go_at_call 65; with_reducible refine (CD.out).mono ?_; rintro e V ⟨q1, e1, q2, e2, rfl, _, _, h1, h2, h3⟩; have R1 := hid h1; have R2 := hid h2; have BV := hid h3; have HPv := hid (row_on HP.out h3); have TH := hid (row_there HPv.out 1 3 (by simp)); clear h1 h2 h3) | (refine wpList_store_mid (by rfl) 30 (.tmp 9) (.tmp 8) (by rfl) R 1 #[.int .u64 d.sq, .slice q1 m1 e1, .slice q2 m2 e2] (by rfl) (by rfl) TH.out (AI.out _ _ _) (by simp [Value.oneCell']) ?_))
  obtain ⟨V1, hV1⟩ : ∃ V1, V.setCells R 1 #[.int .u64 d.sq, .slice q1 m1 e1, .slice q2 m2 e2].toList = V1 := ⟨_, rfl⟩
  have hV1' : ((V.setCell ⟨R, 1, none⟩ (.int .u64 d.sq)).setCell ⟨R, 2, none⟩ (.slice q1 m1 e1)).setCell ⟨R, 3, none⟩ (.slice q2 m2 e2) = V1 := hV1
  have KV := hid (show Kp (fun g => g = R) V V1 from by rw [← hV1']; exact ((Kp.set _ _ _ _).trans (Kp.set _ _ _ _) (fun _ _ h => h)).trans (Kp.set _ _ _ _) (fun _ _ h => h))
  have HP1 := hid (show V1.heap[R]? = some (.cells #[.int .i64 hd, .int .u64 d.sq, .slice q1 m1 e1, .slice q2 m2 e2, .slice p3 n3 c3, .int .u64 gr, .int .u64 la.sq, .int .i64 la.kd, .int .i64 la.sd, .int .i64 la.pr, .int .u64 la.qt, .int .i64 la.ct] 57 (0, 0)) from by rw [← hV1']; exact set_row _ (set_row _ (set_row _ HPv.out)))
  have HD1 := hid (KV.out.row (row_on HD.out BV.out) (fun e => row_ne (row_on HD.out BV.out) HPv.out (by decide) e))
  have HZ1 := hid (KV.out.row (row_on HZ.out BV.out) (fun e => by have e' : R + 1 + 1 = R := e; omega))
  try rw [hV1]
  clear hV1 hV1' k1 k2 k3 j0 j1 j2 j3 j4 j5
  obtain ⟨j0, j1, j2, j3, j4, j5⟩ := row6 HD1.out
  go_upto_region 3 with fail
  have TH2 := hid (row_there HP1.out 6 6 (by simp))
  have AD := hid (show ∀ a b c d e f : Value, (Try.prog.info? 48).map (·.size) = some (#[a, b, c, d, e, f] : Array Value).size from fun _ _ _ _ _ _ => infoD)
  go_upto_region 4 with (refine wpList_store_mid (by rfl) 48 (.tmp 14) (.tmp 13) (by rfl) R 6 #[.int .u64 d.sq, .int .i64 d.kd, .int .i64 d.sd, .int .i64 d.pr, .int .u64 d.qt, .int .i64 d.ct] (by rfl) (by rfl) TH2.out (AD.out _ _ _ _ _ _) (by simp [Value.oneCell']) ?_)
  obtain ⟨V2, hV2⟩ : ∃ V2, V1.setCells R 6 #[.int .u64 d.sq, .int .i64 d.kd, .int .i64 d.sd, .int .i64 d.pr, .int .u64 d.qt, .int .i64 d.ct].toList = V2 := ⟨_, rfl⟩
  have hV2' : (((((V1.setCell ⟨R, 6, none⟩ (.int .u64 d.sq)).setCell ⟨R, 7, none⟩ (.int .i64 d.kd)).setCell ⟨R, 8, none⟩ (.int .i64 d.sd)).setCell ⟨R, 9, none⟩ (.int .i64 d.pr)).setCell ⟨R, 10, none⟩ (.int .u64 d.qt)).setCell ⟨R, 11, none⟩ (.int .i64 d.ct) = V2 := hV2
  have KV2 := hid (show Kp (fun g => g = R) V1 V2 from by rw [← hV2']; exact (((((Kp.set _ _ _ _).trans (Kp.set _ _ _ _) (fun _ _ h => h)).trans (Kp.set _ _ _ _) (fun _ _ h => h)).trans (Kp.set _ _ _ _) (fun _ _ h => h)).trans (Kp.set _ _ _ _) (fun _ _ h => h)).trans (Kp.set _ _ _ _) (fun _ _ h => h))
  have HP2 := hid (show V2.heap[R]? = some (.cells #[.int .i64 hd, .int .u64 d.sq, .slice q1 m1 e1, .slice q2 m2 e2, .slice p3 n3 c3, .int .u64 gr, .int .u64 d.sq, .int .i64 d.kd, .int .i64 d.sd, .int .i64 d.pr, .int .u64 d.qt, .int .i64 d.ct] 57 (0, 0)) from by rw [← hV2']; exact set_row _ (set_row _ (set_row _ (set_row _ (set_row _ (set_row _ HP1.out))))))
  have HZ2 := hid (KV2.out.row HZ1.out (fun e => by have e' : R + 1 + 1 = R := e; omega))
  try rw [hV2]
  clear hV2 hV2' j0 j1 j2 j3 j4 j5
  have c0 := row_cell HP2.out 0
  have c1' := row_cell HP2.out 1
  have c2' := row_cell HP2.out 2
  have c3' := row_cell HP2.out 3
  have c4 := row_cell HP2.out 4
  have c5 := row_cell HP2.out 5
  have c6 := row_cell HP2.out 6
  have c7 := row_cell HP2.out 7
  have c8 := row_cell HP2.out 8
  have c9 := row_cell HP2.out 9
  have c10 := row_cell HP2.out 10
  have c11 := row_cell HP2.out 11
  have AI2 := hid (show (Try.prog.info? 57).map (·.size) = some (#[.int .i64 hd, .int .u64 d.sq, .slice q1 m1 e1, .slice q2 m2 e2, .slice p3 n3 c3, .int .u64 gr, .int .u64 d.sq, .int .i64 d.kd, .int .i64 d.sd, .int .i64 d.pr, .int .u64 d.qt, .int .i64 d.ct] : Array Value).size from infoRS)
  have AS := hid (show (#[.int .i64 0, .int .u64 0, .slice none 0 0, .slice none 0 0, .slice none 0 0, .int .u64 0, .int .u64 0, .int .i64 0, .int .i64 0, .int .i64 0, .int .u64 0, .int .i64 0] : Array Value).size = (#[.int .i64 hd, .int .u64 d.sq, .slice q1 m1 e1, .slice q2 m2 e2, .slice p3 n3 c3, .int .u64 gr, .int .u64 d.sq, .int .i64 d.kd, .int .i64 d.sd, .int .i64 d.pr, .int .u64 d.qt, .int .i64 d.ct] : Array Value).size from rfl)
  have AA := hid (show (#[.int .i64 hd, .int .u64 d.sq, .slice q1 m1 e1, .slice q2 m2 e2, .slice p3 n3 c3, .int .u64 gr, .int .u64 d.sq, .int .i64 d.kd, .int .i64 d.sd, .int .i64 d.pr, .int .u64 d.qt, .int .i64 d.ct] : Array Value).all (·.oneCell') = true from by simp [Value.oneCell'])
  go_wp2_with (refine wpList_store_row (by rfl) 57 (.tmp 4) (.tmp 15) (by rfl) (R + 1 + 1) #[.int .i64 hd, .int .u64 d.sq, .slice q1 m1 e1, .slice q2 m2 e2, .slice p3 n3 c3, .int .u64 gr, .int .u64 d.sq, .int .i64 d.kd, .int .i64 d.sd, .int .i64 d.pr, .int .u64 d.qt, .int .i64 d.ct] (by rfl) (by rfl) 57 _ HZ2.out AI2.out AS.out AA.out ?_)
  refine bodyPost_ret (results_cell_row (fn := Try.f56) Try.results56 _ _ (R + 1 + 1) 57 #[.int .i64 hd, .int .u64 d.sq, .slice q1 m1 e1, .slice q2 m2 e2, .slice p3 n3 c3, .int .u64 gr, .int .u64 d.sq, .int .i64 d.kd, .int .i64 d.sd, .int .i64 d.pr, .int .u64 d.qt, .int .i64 d.ct] (0, 0) _ (by rfl) (setRow_heap _ _ _ _ 57 (0, 0) HZ2.out) Try.underlying57 rfl infoRS) rfl ?_
  have y : Below w.heap.size w V := btr B1.out BV.out
  have kk : Kp (fun g => g = R ∨ g = R + 1 + 1) V (V2.setRow (R + 1 + 1) #[.int .i64 hd, .int .u64 d.sq, .slice q1 m1 e1, .slice q2 m2 e2, .slice p3 n3 c3, .int .u64 gr, .int .u64 d.sq, .int .i64 d.kd, .int .i64 d.sd, .int .i64 d.pr, .int .u64 d.qt, .int .i64 d.ct]) := ((KV.out.trans KV2.out (fun _ _ h => h)).mono (fun _ _ h => .inl h)).trans (setRow_kp _ _ _) (fun _ _ h => .inr h)
  have z : Below w.heap.size w (V2.setRow (R + 1 + 1) #[.int .i64 hd, .int .u64 d.sq, .slice q1 m1 e1, .slice q2 m2 e2, .slice p3 n3 c3, .int .u64 gr, .int .u64 d.sq, .int .i64 d.kd, .int .i64 d.sd, .int .i64 d.pr, .int .u64 d.qt, .int .i64 d.ct]) := y.trans (kk.below y.size (fun g hg e => by have := HR.out; rcases e with e | e <;> omega))
  have lZ : R + 1 + 1 < W.heap.size := row_lt HZ.out
  have off : ∀ (p : Option Addr) (c : Nat) (l : List Lv) (q : Option Addr) (e : Nat) (l' : List Lv), Rl w p c l → Sd W V p c l q e l' → Rl (V2.setRow (R + 1 + 1) #[.int .i64 hd, .int .u64 d.sq, .slice q1 m1 e1, .slice q2 m2 e2, .slice p3 n3 c3, .int .u64 gr, .int .u64 d.sq, .int .i64 d.kd, .int .i64 d.sd, .int .i64 d.pr, .int .u64 d.qt, .int .i64 d.ct]) q e l' ∧ Sd w (V2.setRow (R + 1 + 1) #[.int .i64 hd, .int .u64 d.sq, .slice q1 m1 e1, .slice q2 m2 e2, .slice p3 n3 c3, .int .u64 gr, .int .u64 d.sq, .int .i64 d.kd, .int .i64 d.sd, .int .i64 d.pr, .int .u64 d.qt, .int .i64 d.ct]) p c l q e l' := fun p c l q e l' h hs => by
    rcases hs with ⟨rfl, rfl, rfl⟩ | hs
    · exact ⟨h.on z, .inl ⟨rfl, rfl, rfl⟩⟩
    · have a := hs.kept kk (fun g hg e => by have := (hs.ge hg).1; rcases e with e | e <;> omega)
      exact ⟨a.rl, .inr (a.base B1.out.size)⟩
  obtain ⟨u1, u2⟩ := off _ _ _ _ _ _ H1.out R1.out
  obtain ⟨v1, v2⟩ := off _ _ _ _ _ _ H2.out R2.out
  exact ⟨q1, e1, q2, e2, rfl, u1, v1, u2, v2, z⟩
theorem rdoes_l (d la : Dm) (hok : dOk d = true) (hk : d.kd = 1) (hd sq gr : Int) (p1 p2 p3 : Option Addr) (c1 c2 n3 c3 : Nat) (l1 l2 : List Lv) (w : World) (h1 : Rl w p1 c1 l1) (h2 : Rl w p2 c2 l2) (b1 : l1.length ≤ 262144) (b2 : l2.length ≤ 262144) :
    Calls Try.prog 56 #[.agg #[.int .i64 hd, .int .u64 sq, .slice p1 l1.length c1, .slice p2 l2.length c2, .slice p3 n3 c3, .int .u64 gr, .int .u64 la.sq, .int .i64 la.kd, .int .i64 la.sd, .int .i64 la.pr, .int .u64 la.qt, .int .i64 la.ct], .agg #[.int .u64 d.sq, .int .i64 d.kd, .int .i64 d.sd, .int .i64 d.pr, .int .u64 d.qt, .int .i64 d.ct]] w fun e w' => ∃ q1 e1 q2 e2, e = .returned (.agg #[.int .i64 hd, .int .u64 d.sq, .slice q1 (dnS 1 d l1).length e1, .slice q2 (dnS 2 d l2).length e2, .slice p3 n3 c3, .int .u64 gr, .int .u64 la.sq, .int .i64 la.kd, .int .i64 la.sd, .int .i64 la.pr, .int .u64 la.qt, .int .i64 la.ct]) ∧ Rl w' q1 e1 (dnS 1 d l1) ∧ Rl w' q2 e2 (dnS 2 d l2) ∧ Sd w w' p1 c1 l1 q1 e1 (dnS 1 d l1) ∧ Sd w w' p2 c2 l2 q2 e2 (dnS 2 d l2) ∧ Below w.heap.size w w' := by
  obtain ⟨n1, hn1⟩ : ∃ n, l1.length = n := ⟨_, rfl⟩
  obtain ⟨n2, hn2⟩ : ∃ n, l2.length = n := ⟨_, rfl⟩
  obtain ⟨m1, hm1⟩ : ∃ n, (dnS 1 d l1).length = n := ⟨_, rfl⟩
  obtain ⟨m2, hm2⟩ : ∃ n, (dnS 2 d l2).length = n := ⟨_, rfl⟩
  obtain ⟨R, hR⟩ : ∃ R, w.heap.size = R := ⟨_, rfl⟩
  obtain ⟨W, hW⟩ : ∃ W, ((w.alloc (.cells #[.int .i64 hd, .int .u64 sq, .slice p1 n1 c1, .slice p2 n2 c2, .slice p3 n3 c3, .int .u64 gr, .int .u64 la.sq, .int .i64 la.kd, .int .i64 la.sd, .int .i64 la.pr, .int .u64 la.qt, .int .i64 la.ct] 57)).alloc (.cells #[.int .u64 d.sq, .int .i64 d.kd, .int .i64 d.sd, .int .i64 d.pr, .int .u64 d.qt, .int .i64 d.ct] 48)).alloc (.cells #[.int .i64 0, .int .u64 0, .slice none 0 0, .slice none 0 0, .slice none 0 0, .int .u64 0, .int .u64 0, .int .i64 0, .int .i64 0, .int .i64 0, .int .u64 0, .int .i64 0] 57) = W := ⟨_, rfl⟩
  obtain ⟨hb0, x0, x1, x2⟩ := alloc3 hR hW
  have B1 := hid hb0
  have HP := hid x0
  have HD := hid x1
  have HZ := hid x2
  have HR := hid hR
  have HW := hid hW
  have H1 := hid h1
  have H2 := hid h2
  have CD := hid (rDone_any d hok sq p1 p2 c1 c2 l1 l2 W (h1.on hb0) (h2.on hb0) b1 b2)
  rw [hn1, hn2, hm1, hm2] at CD
  rw [hn1, hn2, hm1, hm2]
  have qk : (d.kd == 2) = false := by simp [hk]
  have k1 := row_cell x0 1
  have k2 := row_cell x0 2
  have k3 := row_cell x0 3
  obtain ⟨j0, j1, j2, j3, j4, j5⟩ := row6 x1
  clear h1 h2 b1 b2 hb0 x0 x1 x2 hW hR hn1 hn2 hm1 hm2 hk hok
  go_enter Try.func56, Try.ntmps56
  go_upto_region 1 with fail
  rw [HW.out, HR.out]
  have AI := hid (show ∀ a b c : Value, (Try.prog.info? 30).map (·.size) = some (#[a, b, c] : Array Value).size from fun _ _ _ => infoP)
  go_upto_region 2 with (first | (go_at_call 65; with_reducible refine (CD.out).mono ?_; rintro e V ⟨q1, e1, q2, e2, rfl, _, _, h1, h2, h3⟩; have R1 := hid h1; have R2 := hid h2; have BV := hid h3; have HPv := hid (row_on HP.out h3); have TH := hid (row_there HPv.out 1 3 (by simp)); clear h1 h2 h3) | (refine wpList_store_mid (by rfl) 30 (.tmp 9) (.tmp 8) (by rfl) R 1 #[.int .u64 d.sq, .slice q1 m1 e1, .slice q2 m2 e2] (by rfl) (by rfl) TH.out (AI.out _ _ _) (by simp [Value.oneCell']) ?_))
  obtain ⟨V1, hV1⟩ : ∃ V1, V.setCells R 1 #[.int .u64 d.sq, .slice q1 m1 e1, .slice q2 m2 e2].toList = V1 := ⟨_, rfl⟩
  have hV1' : ((V.setCell ⟨R, 1, none⟩ (.int .u64 d.sq)).setCell ⟨R, 2, none⟩ (.slice q1 m1 e1)).setCell ⟨R, 3, none⟩ (.slice q2 m2 e2) = V1 := hV1
  have KV := hid (show Kp (fun g => g = R) V V1 from by rw [← hV1']; exact ((Kp.set _ _ _ _).trans (Kp.set _ _ _ _) (fun _ _ h => h)).trans (Kp.set _ _ _ _) (fun _ _ h => h))
  have HP1 := hid (show V1.heap[R]? = some (.cells #[.int .i64 hd, .int .u64 d.sq, .slice q1 m1 e1, .slice q2 m2 e2, .slice p3 n3 c3, .int .u64 gr, .int .u64 la.sq, .int .i64 la.kd, .int .i64 la.sd, .int .i64 la.pr, .int .u64 la.qt, .int .i64 la.ct] 57 (0, 0)) from by rw [← hV1']; exact set_row _ (set_row _ (set_row _ HPv.out)))
  have HD1 := hid (KV.out.row (row_on HD.out BV.out) (fun e => row_ne (row_on HD.out BV.out) HPv.out (by decide) e))
  have HZ1 := hid (KV.out.row (row_on HZ.out BV.out) (fun e => by have e' : R + 1 + 1 = R := e; omega))
  try rw [hV1]
  clear hV1 hV1' k1 k2 k3 j0 j1 j2 j3 j4 j5
  obtain ⟨j0, j1, j2, j3, j4, j5⟩ := row6 HD1.out
  go_upto_region 4 with fail
  obtain ⟨V2, hV2⟩ : ∃ V2, V1 = V2 := ⟨_, rfl⟩
  have KV2 := hid (show Kp (fun g => g = R) V1 V2 from by rw [← hV2]; exact Kp.refl _ _)
  have HP2 := hid (show V2.heap[R]? = some (.cells #[.int .i64 hd, .int .u64 d.sq, .slice q1 m1 e1, .slice q2 m2 e2, .slice p3 n3 c3, .int .u64 gr, .int .u64 la.sq, .int .i64 la.kd, .int .i64 la.sd, .int .i64 la.pr, .int .u64 la.qt, .int .i64 la.ct] 57 (0, 0)) from by rw [← hV2]; exact HP1.out)
  have HZ2 := hid (show V2.heap[R + 1 + 1]? = some (.cells #[.int .i64 0, .int .u64 0, .slice none 0 0, .slice none 0 0, .slice none 0 0, .int .u64 0, .int .u64 0, .int .i64 0, .int .i64 0, .int .i64 0, .int .u64 0, .int .i64 0] 57 (0, 0)) from by rw [← hV2]; exact HZ1.out)
  rw [hV2]
  clear hV2 j0 j1 j2 j3 j4 j5
  have c0 := row_cell HP2.out 0
  have c1' := row_cell HP2.out 1
  have c2' := row_cell HP2.out 2
  have c3' := row_cell HP2.out 3
  have c4 := row_cell HP2.out 4
  have c5 := row_cell HP2.out 5
  have c6 := row_cell HP2.out 6
  have c7 := row_cell HP2.out 7
  have c8 := row_cell HP2.out 8
  have c9 := row_cell HP2.out 9
  have c10 := row_cell HP2.out 10
  have c11 := row_cell HP2.out 11
  have AI2 := hid (show (Try.prog.info? 57).map (·.size) = some (#[.int .i64 hd, .int .u64 d.sq, .slice q1 m1 e1, .slice q2 m2 e2, .slice p3 n3 c3, .int .u64 gr, .int .u64 la.sq, .int .i64 la.kd, .int .i64 la.sd, .int .i64 la.pr, .int .u64 la.qt, .int .i64 la.ct] : Array Value).size from infoRS)
  have AS := hid (show (#[.int .i64 0, .int .u64 0, .slice none 0 0, .slice none 0 0, .slice none 0 0, .int .u64 0, .int .u64 0, .int .i64 0, .int .i64 0, .int .i64 0, .int .u64 0, .int .i64 0] : Array Value).size = (#[.int .i64 hd, .int .u64 d.sq, .slice q1 m1 e1, .slice q2 m2 e2, .slice p3 n3 c3, .int .u64 gr, .int .u64 la.sq, .int .i64 la.kd, .int .i64 la.sd, .int .i64 la.pr, .int .u64 la.qt, .int .i64 la.ct] : Array Value).size from rfl)
  have AA := hid (show (#[.int .i64 hd, .int .u64 d.sq, .slice q1 m1 e1, .slice q2 m2 e2, .slice p3 n3 c3, .int .u64 gr, .int .u64 la.sq, .int .i64 la.kd, .int .i64 la.sd, .int .i64 la.pr, .int .u64 la.qt, .int .i64 la.ct] : Array Value).all (·.oneCell') = true from by simp [Value.oneCell'])
  go_wp2_with (refine wpList_store_row (by rfl) 57 (.tmp 4) (.tmp 15) (by rfl) (R + 1 + 1) #[.int .i64 hd, .int .u64 d.sq, .slice q1 m1 e1, .slice q2 m2 e2, .slice p3 n3 c3, .int .u64 gr, .int .u64 la.sq, .int .i64 la.kd, .int .i64 la.sd, .int .i64 la.pr, .int .u64 la.qt, .int .i64 la.ct] (by rfl) (by rfl) 57 _ HZ2.out AI2.out AS.out AA.out ?_)
  refine bodyPost_ret (results_cell_row (fn := Try.f56) Try.results56 _ _ (R + 1 + 1) 57 #[.int .i64 hd, .int .u64 d.sq, .slice q1 m1 e1, .slice q2 m2 e2, .slice p3 n3 c3, .int .u64 gr, .int .u64 la.sq, .int .i64 la.kd, .int .i64 la.sd, .int .i64 la.pr, .int .u64 la.qt, .int .i64 la.ct] (0, 0) _ (by rfl) (setRow_heap _ _ _ _ 57 (0, 0) HZ2.out) Try.underlying57 rfl infoRS) rfl ?_
  have y : Below w.heap.size w V := btr B1.out BV.out
  have kk : Kp (fun g => g = R ∨ g = R + 1 + 1) V (V2.setRow (R + 1 + 1) #[.int .i64 hd, .int .u64 d.sq, .slice q1 m1 e1, .slice q2 m2 e2, .slice p3 n3 c3, .int .u64 gr, .int .u64 la.sq, .int .i64 la.kd, .int .i64 la.sd, .int .i64 la.pr, .int .u64 la.qt, .int .i64 la.ct]) := ((KV.out.trans KV2.out (fun _ _ h => h)).mono (fun _ _ h => .inl h)).trans (setRow_kp _ _ _) (fun _ _ h => .inr h)
  have z : Below w.heap.size w (V2.setRow (R + 1 + 1) #[.int .i64 hd, .int .u64 d.sq, .slice q1 m1 e1, .slice q2 m2 e2, .slice p3 n3 c3, .int .u64 gr, .int .u64 la.sq, .int .i64 la.kd, .int .i64 la.sd, .int .i64 la.pr, .int .u64 la.qt, .int .i64 la.ct]) := y.trans (kk.below y.size (fun g hg e => by have := HR.out; rcases e with e | e <;> omega))
  have lZ : R + 1 + 1 < W.heap.size := row_lt HZ.out
  have off : ∀ (p : Option Addr) (c : Nat) (l : List Lv) (q : Option Addr) (e : Nat) (l' : List Lv), Rl w p c l → Sd W V p c l q e l' → Rl (V2.setRow (R + 1 + 1) #[.int .i64 hd, .int .u64 d.sq, .slice q1 m1 e1, .slice q2 m2 e2, .slice p3 n3 c3, .int .u64 gr, .int .u64 la.sq, .int .i64 la.kd, .int .i64 la.sd, .int .i64 la.pr, .int .u64 la.qt, .int .i64 la.ct]) q e l' ∧ Sd w (V2.setRow (R + 1 + 1) #[.int .i64 hd, .int .u64 d.sq, .slice q1 m1 e1, .slice q2 m2 e2, .slice p3 n3 c3, .int .u64 gr, .int .u64 la.sq, .int .i64 la.kd, .int .i64 la.sd, .int .i64 la.pr, .int .u64 la.qt, .int .i64 la.ct]) p c l q e l' := fun p c l q e l' h hs => by
    rcases hs with ⟨rfl, rfl, rfl⟩ | hs
    · exact ⟨h.on z, .inl ⟨rfl, rfl, rfl⟩⟩
    · have a := hs.kept kk (fun g hg e => by have := (hs.ge hg).1; rcases e with e | e <;> omega)
      exact ⟨a.rl, .inr (a.base B1.out.size)⟩
  obtain ⟨u1, u2⟩ := off _ _ _ _ _ _ H1.out R1.out
  obtain ⟨v1, v2⟩ := off _ _ _ _ _ _ H2.out R2.out
  exact ⟨q1, e1, q2, e2, rfl, u1, v1, u2, v2, z⟩
end Go.Proofs.Ytiphgfghdbmlcaa
