/-
  The document's Publish.
-/
import Derived.Test.YtiphgfghdbmlcaaFeW
import Derived.Test.YtiphgfghdbmlcaaFeY
namespace Go.Proofs.Ytiphgfghdbmlcaa
open Go.RowKit Go.Deep
set_option linter.unusedVariables false
set_option linter.unusedSimpArgs false
set_option maxHeartbeats 8000000
set_option maxRecDepth 100000
theorem res_ctt {P : Program} {fn : Func} {p q r : Tmp} {ty : TypeId} (h : fn.results = #[.cell p ty, .tmp q, .tmp r]) (tmps : Array Value) (w : World) (g : Nat) (t : TypeId) (cs : Array Value) (fr : Nat × Nat) (d : TypeDesc) (v u : Value)
    (hp : tmps.getD p undef = .pointer (some ⟨g, 0, none⟩)) (hq : tmps.getD q undef = v) (hr : tmps.getD r undef = u) (hg : w.heap[g]? = some (.cells cs t fr))
    (hu : P.underlying ty = some d) (hd : (match d with | .struct _ | .array _ _ => true | _ => false) = true) (hi : (P.info? ty).map (·.size) = some cs.size) :
    (results fn tmps).run P w = .ok (.tuple #[.agg cs, v, u]) w := by
  have hp' : tmps[p]?.getD undef = .pointer (some ⟨g, 0, none⟩) := by simpa using hp
  have hq' : tmps[q]?.getD undef = v := by simpa using hq
  have hr' : tmps[r]?.getD undef = u := by simpa using hr
  simp [results, h, hp', hq', hr', asAddr, run_loadVar_row w g t ty cs fr d hg hu hd hi]
theorem infoRP : (Try.prog.info? 32).map (·.size) = some 4 := by kernel_rfl
/-- the document's publisher, a value. -/
structure Rp (w : World) (d : Nat) (sq : Int) (p1 : Option Addr) (c1 : Nat) (l1 : List Lv) (p2 : Option Addr) (c2 : Nat) (l2 : List Lv) : Prop where
  r1 : Rl w p1 c1 l1
  r2 : Rl w p2 c2 l2
  k1 : Lok 1 l1
  k2 : Lok 2 l2
  n1 : l1.length ≤ 64
  n2 : l2.length ≤ 64
  d1 : 1 ≤ d
  d2 : d ≤ 64
  sq : 0 ≤ sq ∧ sq < 18446744073709551616
theorem rpublish_lev (d : Nat) (sq : Int) (p1 p2 pb ps pe : Option Addr) (n1 n2 c1 c2 cb cs ce : Nat) (lb ls : List Lv) (le : List Ev) (w : World) (hb : Rl w pb cb lb) (hs : Rl w ps cs ls) (hok : (lok 1 lb && lok 2 ls) = false) :
    Calls Try.prog 11 #[.agg #[.int .i64 d, .int .u64 sq, .slice p1 n1 c1, .slice p2 n2 c2], .slice pb lb.length cb, .slice ps ls.length cs, .slice pe le.length ce] w fun e w' => e = .returned (.tuple #[.agg #[.int .i64 d, .int .u64 sq, .slice p1 n1 c1, .slice p2 n2 c2], .slice none 0 0, .int .i64 1]) ∧ Below w.heap.size w w' := by
  obtain ⟨R, hR⟩ : ∃ R, w.heap.size = R := ⟨_, rfl⟩
  obtain ⟨W, hW⟩ : ∃ W, (w.alloc (.cells #[.int .i64 d, .int .u64 sq, .slice p1 n1 c1, .slice p2 n2 c2] 32)).alloc (.cells #[.int .i64 0, .int .u64 0, .slice none 0 0, .slice none 0 0] 32) = W := ⟨_, rfl⟩
  obtain ⟨hb0, x0, x1, hsz⟩ := alloc2 hR hW
  have HB := hid hb0
  have HP := hid (x0 _ _ rfl)
  have HZ := hid (x1 _ _ rfl)
  have HS := hid hsz
  have HW := hid hW
  have HR := hid hR
  have C1 := hid (levels_any 1 pb cb lb W (hb.on hb0))
  have C2 := hid (fun (U : World) (hU : Below w.heap.size w U) => levels_any 2 ps cs ls U (hs.on hU))
  clear hb0 x0 x1 hsz hW hR hb hs
  have AI := hid (show (Try.prog.info? 32).map (·.size) = some (#[.int .i64 d, .int .u64 sq, .slice p1 n1 c1, .slice p2 n2 c2] : Array Value).size from infoRP)
  have AS := hid (show (#[.int .i64 0, .int .u64 0, .slice none 0 0, .slice none 0 0] : Array Value).size = (#[.int .i64 d, .int .u64 sq, .slice p1 n1 c1, .slice p2 n2 c2] : Array Value).size from rfl)
  have AA := hid (show (#[.int .i64 d, .int .u64 sq, .slice p1 n1 c1, .slice p2 n2 c2] : Array Value).all (·.oneCell') = true from by simp [Value.oneCell'])
  cases h1 : lok 1 lb with
  | false =>
    rw [h1] at C1
    clear h1 hok
    go_enter Try.func11, Try.ntmps11
    go_upto_region 1 with fail
    rw [HW.out, HR.out]
    go_upto_region 2 with (go_at_call 30; with_reducible refine (C1.out).mono ?_; rintro e w1 ⟨rfl, hb⟩; have HB1 := hid hb; have HZ1 := hid (row_on HZ.out hb); obtain ⟨k0, k1, k2, k3⟩ := row4 (row_on HP.out hb); clear hb)
    go_wp2_with (refine wpList_store_row (by rfl) 32 (.tmp 8) (.tmp 26) (by rfl) (R + 1) #[.int .i64 d, .int .u64 sq, .slice p1 n1 c1, .slice p2 n2 c2] (by rfl) (by rfl) 32 _ HZ1.out AI.out AS.out AA.out ?_)
    refine bodyPost_ret (res_ctt (fn := Try.f11) Try.results11 _ _ (R + 1) 32 #[.int .i64 d, .int .u64 sq, .slice p1 n1 c1, .slice p2 n2 c2] (0, 0) _ (.slice none 0 0) (.int .i64 1) (by rfl) (by rfl) (by rfl) (setRow_heap _ _ _ _ 32 (0, 0) HZ1.out) Try.underlying32 rfl infoRP) rfl ⟨rfl, ?_⟩
    exact setRow_below (btr HB.out HB1.out) (by have := HR.out; omega)
  | true =>
    have h2 : lok 2 ls = false := by rw [h1] at hok; simpa using hok
    rw [h1] at C1
    rw [h2] at C2
    clear h1 h2 hok
    go_enter Try.func11, Try.ntmps11
    go_upto_region 1 with fail
    rw [HW.out, HR.out]
    go_upto_region 2 with (first | (go_at_call 30; with_reducible refine (C1.out).mono ?_; rintro e w1 ⟨rfl, hb⟩; have HB1' := hid hb; clear hb C1) | (go_at_call 30; with_reducible refine (C2.out w1 (btr HB.out HB1'.out)).mono ?_; rintro e w2 ⟨rfl, hb⟩; have HB1 := hid (btr HB1'.out hb); have HZ1 := hid (row_on HZ.out (btr HB1'.out hb)); obtain ⟨k0, k1, k2, k3⟩ := row4 (row_on HP.out (btr HB1'.out hb)); clear hb))
    go_wp2_with (refine wpList_store_row (by rfl) 32 (.tmp 8) (.tmp 26) (by rfl) (R + 1) #[.int .i64 d, .int .u64 sq, .slice p1 n1 c1, .slice p2 n2 c2] (by rfl) (by rfl) 32 _ HZ1.out AI.out AS.out AA.out ?_)
    refine bodyPost_ret (res_ctt (fn := Try.f11) Try.results11 _ _ (R + 1) 32 #[.int .i64 d, .int .u64 sq, .slice p1 n1 c1, .slice p2 n2 c2] (0, 0) _ (.slice none 0 0) (.int .i64 1) (by rfl) (by rfl) (by rfl) (setRow_heap _ _ _ _ 32 (0, 0) HZ1.out) Try.underlying32 rfl infoRP) rfl ⟨rfl, ?_⟩
    exact setRow_below (btr HB.out HB1.out) (by have := HR.out; omega)
/-- what stands at the head of the document's loop that numbers. -/
structure Nv (W : World) (sq : Int) (T : List Dm) (q : Option Addr) (dd : Nat) (q1 : Option Addr) (e1 : Nat) (f1 : List Lv) (q2 : Option Addr) (e2 : Nat) (f2 : List Lv) (i : Nat) (wr : World) : Prop where
  o : wr.ownsRow W.heap.size 48 6 (.slice q T.length dd) T.length (dvc (nmi sq T i))
  l1 : Lo W.heap.size wr q1 e1 f1
  l2 : Lo W.heap.size wr q2 e2 f2
  b : Below W.heap.size W wr
theorem rpublish_any (d : Nat) (sq : Int) (p1 p2 pb ps pe : Option Addr) (c1 c2 cb cs ce : Nat) (l1 l2 lb ls : List Lv) (le : List Ev) (w : World) (h : Rp w d sq p1 c1 l1 p2 c2 l2) (hb : Rl w pb cb lb) (hs : Rl w ps cs ls) (he : Re w pe ce le) (hl : le.length * 104 ≤ 140737488355328) (hok : (lok 1 lb && lok 2 ls) = true) :
    Calls Try.prog 11 #[.agg #[.int .i64 d, .int .u64 sq, .slice p1 l1.length c1, .slice p2 l2.length c2], .slice pb lb.length cb, .slice ps ls.length cs, .slice pe le.length ce] w fun e w' => Below w.heap.size w w' ∧ ((trOk le = false ∧ e = .returned (.tuple #[.agg #[.int .i64 d, .int .u64 sq, .slice p1 l1.length c1, .slice p2 l2.length c2], .slice none 0 0, .int .i64 1])) ∨ (trOk le = true ∧ ∃ q dd q1 e1 q2 e2, e = .returned (.tuple #[.agg #[.int .i64 d, .int .u64 (uw (sq + (pubT d l1 l2 lb ls le).length)), .slice q1 (lb.take d).length e1, .slice q2 (ls.take d).length e2], .slice q (pubT d l1 l2 lb ls le).length dd, .int .i64 0]) ∧ Dw w.heap.size w' q dd (nmb sq (pubT d l1 l2 lb ls le)) ∧ Lo w.heap.size w' q1 e1 (lb.take d) ∧ Lo w.heap.size w' q2 e2 (ls.take d))) := by
  simp only [Bool.and_eq_true] at hok
  obtain ⟨n1, hn1⟩ : ∃ n, l1.length = n := ⟨_, rfl⟩
  obtain ⟨n2, hn2⟩ : ∃ n, l2.length = n := ⟨_, rfl⟩
  rw [hn1, hn2]
  obtain ⟨R, hR⟩ : ∃ R, w.heap.size = R := ⟨_, rfl⟩
  obtain ⟨W, hW⟩ : ∃ W, (w.alloc (.cells #[.int .i64 d, .int .u64 sq, .slice p1 n1 c1, .slice p2 n2 c2] 32)).alloc (.cells #[.int .i64 0, .int .u64 0, .slice none 0 0, .slice none 0 0] 32) = W := ⟨_, rfl⟩
  obtain ⟨hb0, x0, x1, hsz⟩ := alloc2 hR hW
  have HB := hid hb0
  have HP := hid (x0 _ _ rfl)
  have HZ := hid (x1 _ _ rfl)
  have HS := hid hsz
  have HW := hid hW
  have HR := hid hR
  have C1 := hid (levels_any 1 pb cb lb W (hb.on hb0))
  have C2 := hid (fun (U : World) (hU : Below w.heap.size w U) => levels_any 2 ps cs ls U (hs.on hU))
  rw [hok.1] at C1
  rw [hok.2] at C2
  have CC := hid (fun (x : Dm) (U : World) => message_any x U)
  have F1 := hid (fun (U : World) (hU : Below w.heap.size w U) => rfirst_any d pb cb lb U (hb.on hU) h.d2)
  have F2 := hid (fun (U : World) (hU : Below w.heap.size w U) => rfirst_any d ps cs ls U (hs.on hU) h.d2)
  have HL := hid he
  have hmax := he.max
  have hcap := he.cap
  unfold maxLen at hmax
  have hTl := trd_len le
  have hd64 := h.d2
  have hd1 := h.d1
  obtain ⟨f1, hf1⟩ : ∃ f, lb.take d = f := ⟨_, rfl⟩
  obtain ⟨f2, hf2⟩ : ∃ f, ls.take d = f := ⟨_, rfl⟩
  have lf1 : f1.length ≤ 64 := by rw [← hf1]; simp; omega
  have lf2 : f2.length ≤ 64 := by rw [← hf2]; simp; omega
  have KF1 := hid (show Lok 1 f1 from by rw [← hf1]; exact ((lok_iff 1 lb).1 hok.1).take d)
  have KF2 := hid (show Lok 2 f2 from by rw [← hf2]; exact ((lok_iff 2 ls).1 hok.2).take d)
  have a1 := h.n1
  have a2 := h.n2
  obtain ⟨X, hX⟩ : ∃ X, trd le = X := ⟨_, rfl⟩
  obtain ⟨Y, hY⟩ : ∃ Y, chg 1 l1 f1 = Y := ⟨_, rfl⟩
  obtain ⟨Z, hZ⟩ : ∃ Z, chg 2 l2 f2 = Z := ⟨_, rfl⟩
  have hYl : Y.length ≤ 128 := by rw [← hY]; have := chg_len 1 l1 f1; omega
  have hZl : Z.length ≤ 128 := by rw [← hZ]; have := chg_len 2 l2 f2; omega
  have CY := hid (fun (U : World) (hU : Below w.heap.size w U) (q : Option Addr) (e : Nat) (hr : Rl U q e f1) => rchanges_any 1 p1 q c1 e l1 f1 U (h.r1.on hU) hr h.k1 KF1.out (by omega))
  have CZ := hid (fun (U : World) (hU : Below w.heap.size w U) (q : Option Addr) (e : Nat) (hr : Rl U q e f2) => rchanges_any 2 p2 q c2 e l2 f2 U (h.r2.on hU) hr h.k2 KF2.out (by omega))
  rw [hf1] at F1
  rw [hf2] at F2
  rw [hY, hn1] at CY
  rw [hZ, hn2] at CZ
  have hP : pubT d l1 l2 lb ls le = X ++ Y ++ Z := by unfold pubT; rw [hX, hf1, hf2, hY, hZ]
  obtain ⟨T, hT'⟩ : ∃ T, X ++ Y ++ Z = T := ⟨_, rfl⟩
  obtain ⟨nT, hnT⟩ : ∃ n, T.length = n := ⟨_, rfl⟩
  have HTT := hid hT'
  have HTL := hid hnT
  have HX := hid hX
  rw [hP, hf1, hf2, hT', hnT]
  have HSQ := hid h.sq
  obtain ⟨n, hn⟩ : ∃ n, le.length = n := ⟨_, rfl⟩
  have HN := hid hn
  rw [hX, hn] at hTl
  rw [hn] at hcap hl ⊢
  obtain ⟨nX, hnX⟩ : ∃ n, X.length = n := ⟨_, rfl⟩
  obtain ⟨nY, hnY⟩ : ∃ n, Y.length = n := ⟨_, rfl⟩
  obtain ⟨nZ, hnZ⟩ : ∃ n, Z.length = n := ⟨_, rfl⟩
  have HNX := hid hnX
  have HNY := hid hnY
  have HNZ := hid hnZ
  rw [hnX] at hTl
  rw [hnY] at CY hYl
  rw [hnZ] at CZ hZl
  clear hb0 x0 x1 hsz hW hR hb hs he hok hf1 hf2 hX hY hZ hP h hT' hnT hn hnX hnY hnZ hn1 hn2 KF1 KF2
  have AI := hid (show (Try.prog.info? 32).map (·.size) = some (#[.int .i64 d, .int .u64 sq, .slice p1 n1 c1, .slice p2 n2 c2] : Array Value).size from infoRP)
  have AS := hid (show (#[.int .i64 0, .int .u64 0, .slice none 0 0, .slice none 0 0] : Array Value).size = (#[.int .i64 d, .int .u64 sq, .slice p1 n1 c1, .slice p2 n2 c2] : Array Value).size from rfl)
  have AA := hid (show (#[.int .i64 d, .int .u64 sq, .slice p1 n1 c1, .slice p2 n2 c2] : Array Value).all (·.oneCell') = true from by simp [Value.oneCell'])
  go_enter Try.func11, Try.ntmps11
  go_upto_region 1 with fail
  rw [HW.out, HR.out]
  go_upto_region 3 with (first | (go_at_call 30; with_reducible refine (C1.out).mono ?_; rintro e v1 ⟨rfl, hb⟩; have HB1' := hid hb; clear hb C1) | (go_at_call 30; with_reducible refine (C2.out v1 (btr HB.out HB1'.out)).mono ?_; rintro e v2 ⟨rfl, hb⟩; have HBV := hid (btr HB1'.out hb); clear hb))
  clear C2 HB1'
  go_wp2
  go_loopw [11, 12] (fun tv iv wr => ∃ (i : Nat) (q : Option Addr) (d m : Nat), i ≤ n ∧ iv = .int .i64 i ∧ tv = .slice q m d ∧ m ≤ i ∧ Hid (m = (trd (le.take i)).length) ∧ Hid (wr.ownsRow W.heap.size 48 6 (.slice q m d) m (dvc (trd (le.take i)))) ∧ Hid ((trd (le.take i)).all dOk = true) ∧ Hid (Below W.heap.size W wr)) (fun _ iv _ => n - (intOf iv).toNat)
  case atStart => exact ⟨0, none, 0, 0, by omega, rfl, rfl, by omega, rfl, own_nil _ _ _ _, rfl, HBV.out⟩
  case round =>
    obtain ⟨i, q, dd, m, hi, rfl, rfl, hm, HM, HO, HA, HBr⟩ := hrel
    by_cases hlt : i < n
    · have hil : i < le.length := by have := HN.out; omega
      obtain ⟨g, o, rfl, sg, A0⟩ := ((HL.out.on HB.out).on HBr.out).cells hil
      obtain ⟨z, hz⟩ : ∃ z, le[i] = z := ⟨_, rfl⟩
      rw [hz] at A0
      have HZ' := hid hz
      obtain ⟨a0, a1, a2, a3, a4, a5, a6, a7, a8, a9, a10, a11, a12⟩ := A0
      have i0 : (0 : Int) ≤ (i : Int) := by omega
      have i1 : (i : Int) < (n : Int) := by omega
      by_cases h3 : z.kd = 3
      · have q3 : (z.kd != 3) = false := by simpa using h3
        obtain ⟨V, hV⟩ : ∃ V, (wr.alloc (.cells #[.int .u64 z.sq, .int .i64 z.kd, .int .u64 z.id, .int .u64 z.ot, .int .u64 z.tg, .int .u32 z.mb, .int .i64 z.sd, .int .i64 z.ty, .int .i64 z.pr, .int .u64 z.qt, .int .u64 z.pk, .int .i64 z.rs, .int .i64 z.cd] 85)).alloc (.cells #[.int .u64 1, .int .i64 2, .int .i64 z.sd, .int .i64 z.pr, .int .u64 z.qt, .int .i64 0] 48) = V := ⟨_, rfl⟩
        obtain ⟨Q, hQ⟩ : ∃ Q, wr.heap.size = Q := ⟨_, rfl⟩
        obtain ⟨hb0, x0, x1, hsz⟩ := alloc2 hQ hV
        have HBW := hid (btr HBr.out hb0)
        have HBR := hid hb0
        have HD := hid (x1 _ _ rfl)
        have HV := hid hV
        have HQQ := hid hQ
        have C1 := hid (CC.out (tr1 z) V)
        have H3 := hid (show le[i].kd = 3 from by rw [hz]; exact h3)
        have HT := hid (show trd (le.take (i + 1)) = trd (le.take i) ++ [tr1 z] from by rw [trd_snoc le i hil, hz]; simp [h3])
        cases hd : dOk (tr1 z) with
        | false =>
          rw [hd] at C1
          have E := hid (show trOk le = false from trOk_not hil H3.out (by rw [hz]; exact hd))
          simp only [tr1] at C1
          clear hz h3 hd hb0 x0 x1 hsz hV hQ
          go_upto_region 10 with fail
          rw [HV.out, HQQ.out]
          obtain ⟨k0, k1, k2, k3, k4, k5⟩ := row6 HD.out
          go_upto_region 11 with (go_at_call 31; with_reducible refine (C1.out).mono ?_; rintro e w1 ⟨rfl, hb⟩; have HB1 := hid (btr HBW.out hb); have HZ1 := hid (row_on HZ.out (btr HBW.out hb)); obtain ⟨j0, j1, j2, j3⟩ := row4 (row_on HP.out (btr HBW.out hb)); clear hb)
          go_wp2_with (refine wpList_store_row (by rfl) 32 (.tmp 8) (.tmp 50) (by rfl) (R + 1) #[.int .i64 d, .int .u64 sq, .slice p1 n1 c1, .slice p2 n2 c2] (by rfl) (by rfl) 32 _ HZ1.out AI.out AS.out AA.out ?_)
          refine bodyPost_ret (res_ctt (fn := Try.f11) Try.results11 _ _ (R + 1) 32 #[.int .i64 d, .int .u64 sq, .slice p1 n1 c1, .slice p2 n2 c2] (0, 0) _ (.slice none 0 0) (.int .i64 1) (by rfl) (by rfl) (by rfl) (setRow_heap _ _ _ _ 32 (0, 0) HZ1.out) Try.underlying32 rfl infoRP) rfl ⟨?_, .inl ⟨E.out, rfl⟩⟩
          exact setRow_below (btr HB.out HB1.out) (by have := HR.out; omega)
        | true =>
          rw [hd] at C1
          have HDK := hid hd
          simp only [tr1] at C1
          clear hz h3 hd hb0 x0 x1 hsz hV hQ
          go_upto_region 10 with fail
          rw [HV.out, HQQ.out]
          obtain ⟨k0, k1, k2, k3, k4, k5⟩ := row6 HD.out
          go_upto_region 12 with (go_at_call 31; with_reducible refine (C1.out).mono ?_; rintro e w1 ⟨rfl, hb⟩; have HB1 := hid hb; obtain ⟨k0, k1, k2, k3, k4, k5⟩ := row6 (row_on HD.out hb); clear hb)
          have HX9 := hid (own_on HO.out (btr (btr HBR.out HB1.out) (ball w1 (.cells #[.int .u64 1, .int .i64 2, .int .i64 z.sd, .int .i64 z.pr, .int .u64 z.qt, .int .i64 0] 48))))
          have HBX := hid (btr (btr HBW.out HB1.out) (ball w1 (.cells #[.int .u64 1, .int .i64 2, .int .i64 z.sd, .int .i64 z.pr, .int .u64 z.qt, .int .i64 0] 48)))
          have HBX0 := hid (btr HB.out HBX.out)
          have RN := hid (rd_new w1 (tr1 z))
          have HLN := hid (dvc_len [tr1 z])
          go_wp2_with (at_builtin; refine wpList_app_rd (by rfl) (.tmp 51) (.tmp 53) 39 48 _ 6 48 (by rfl) Try.underlying39 infoD6 rfl (by decide) W.heap.size _ m (dvc (trd (le.take i))) (by rfl) HX9.out (some ⟨w1.heap.size, 0, none⟩) 1 1 (dvc [tr1 z]) (by rfl) (fun e => by cases e) HLN.out RN.out (dvc_one _) (by unfold maxLen; omega) (by omega) HBX.out.size ?_; intro v' w' hown hgrow; obtain ⟨p1', q1', rfl⟩ := own_form hown; have HO1 := hid hown; have HG1 := hid (below_grown (base := 0) HBX.out HX9.out hgrow); clear hown hgrow)
          go_roundw
          case rel =>
            refine ⟨i + 1, p1', q1', m + 1, by omega, by go_num, rfl, by omega, ?_, ?_, ?_, ?_⟩
            · rw [HT.out, List.length_append, ← HM.out]; rfl
            · rw [HT.out, dvc_app]; exact HO1.out
            · exact (show (trd (le.take (i + 1))).all dOk = true from by rw [HT.out, List.all_append, HA.out]; simp [HDK.out])
            · exact HG1.out
          case measure => simp [intOf]; omega
      · have q3 : (z.kd != 3) = true := by simpa using h3
        have HT := hid (show trd (le.take (i + 1)) = trd (le.take i) from by rw [trd_snoc le i hil, hz]; simp [h3])
        have HBW := hid (ball wr (.cells #[.int .u64 z.sq, .int .i64 z.kd, .int .u64 z.id, .int .u64 z.ot, .int .u64 z.tg, .int .u32 z.mb, .int .i64 z.sd, .int .i64 z.ty, .int .i64 z.pr, .int .u64 z.qt, .int .u64 z.pk, .int .i64 z.rs, .int .i64 z.cd] 85))
        clear hz h3
        go_wp2
        go_roundw
        case rel =>
          refine ⟨i + 1, q, dd, m, by omega, by go_num, rfl, by omega, ?_, ?_, ?_, btr HBr.out HBW.out⟩
          · rw [HT.out]; exact HM.out
          · rw [HT.out]; exact own_on HO.out HBW.out
          · rw [HT.out]; exact HA.out
        case measure => simp [intOf]; omega
    · obtain rfl : i = n := by omega
      have HE := hid (show le.take i = le from List.take_of_length_le (by have := HN.out; omega))
      have TOK := hid (show trOk le = true from by unfold trOk; rw [← HE.out]; exact HA.out)
      go_upto_region 13 with fail
      have HXl := hid (show m = nX from by rw [HM.out, HE.out, HX.out, HNX.out])
      have HXo := hid (show wr.ownsRow W.heap.size 48 6 (.slice q nX dd) nX (dvc X) from by
        have := HO.out
        rw [HE.out, HX.out, HXl.out] at this
        exact this)
      rw [HXl.out]
      clear HO HM HA hm HXl
      obtain ⟨k0, k1, k2, k3⟩ := row4 (row_on HP.out HBr.out)
      clear k1 k2 k3
      have HBd := hid (btr HBr.out (bdrew1 wr))
      have HXd := hid (own_on HXo.out (bdrew1 wr))
      have HKK := hid (show ∀ U, Below W.heap.size W U → U.cell? ⟨R, 0, none⟩ = some (.int .i64 d) from fun U hU => row_cell (row_on HP.out hU) 0)
      go_region_held3 (fun U => U.cell? ⟨R, 0, none⟩ = some (.int .i64 d)) (go_keep) (first | (go_at_call 32; with_reducible refine (F1.out _ (btr HB.out HBd.out)).mono ?_; rintro e w3 ⟨q1, e1, rfl, hl1, hb⟩; have HB3 := hid (btr HBd.out hb); have HX3 := hid (own_on HXd.out hb); have HL1 := hid (hl1.base HBd.out.size); have k0 := HKK.out w3 HB3.out; clear hb hl1 F1) | (go_at_call 32; with_reducible refine (F2.out w3 (btr HB.out HB3.out)).mono ?_; rintro e w4 ⟨q2, e2, rfl, hl2, hb⟩; have HB4 := hid (btr HB3.out hb); have HX4 := hid (own_on HX3.out hb); have HL1b := hid (HL1.out.on hb); have HL2 := hid (hl2.base HB3.out.size); have k0 := HKK.out w4 HB4.out; clear hb hl2))
      obtain ⟨nf1, hnf1⟩ : ∃ n, f1.length = n := ⟨_, rfl⟩
      obtain ⟨nf2, hnf2⟩ : ∃ n, f2.length = n := ⟨_, rfl⟩
      have HF1 := hid hnf1
      have HF2 := hid hnf2
      rw [hnf1, hnf2]
      clear hnf1 hnf2
      have CY1 := hid (CY.out w4 (btr HB.out HB4.out) q1 e1 HL1b.out.rl)
      rw [HF1.out] at CY1
      clear CY HB3 HX3 HL1 HBd HXd HXo k0
      obtain ⟨k0, k1, k2, k3⟩ := row4 (row_on HP.out HB4.out)
      have HLY := hid (dvc_len Y)
      have HLZ := hid (dvc_len Z)
      rw [HNY.out] at HLY
      rw [HNZ.out] at HLZ
      go_upto_region 15 with (first | (go_at_call 33; with_reducible refine (CY1.out).mono ?_; rintro e w5 ⟨qy, dy, rfl, hd, hb⟩; have HB5 := hid (btr HB4.out hb); have HB45 := hid hb; have HX5 := hid (own_on HX4.out hb); have HY5 := hid (show w5.ownsRow w4.heap.size 48 6 (.slice qy nY dy) nY (dvc Y) from by unfold Dw at hd; rw [HNY.out] at hd; exact hd); clear hb hd) | (at_builtin; refine wpList_app_rd (by rfl) (.tmp 63) (.tmp 68) 39 48 _ 6 48 (by rfl) Try.underlying39 infoD6 rfl (by decide) W.heap.size _ nX (dvc X) (by rfl) HX5.out qy dy nY (dvc Y) (by rfl) (own_cap HY5.out).2.2 HLY.out (fun ad e => by subst e; exact (own_cells HY5.out).2) (dvc_one _) (by unfold maxLen; omega) (by omega) HB5.out.size ?_; intro v' w6 hown hgrow; obtain ⟨q6, d6, rfl⟩ := own_form hown; have HO6 := hid (show w6.ownsRow W.heap.size 48 6 (.slice q6 (nX + nY) d6) (nX + nY) (dvc (X ++ Y)) from by rw [dvc_app]; exact hown); have HB6 := hid (below_grown (base := 0) HB5.out HX5.out hgrow); have HG6 := hid hgrow; clear hown hgrow))
      have HL16 := hid (show Lo W.heap.size w6 q1 e1 f1 from own_same (HL1b.out.on HB45.out) (fun j hj => HG6.out.block j (by obtain ⟨cc, ec⟩ := own_ty (HL1b.out.on HB45.out) hj; exact row_lt ec) (by
        intro e
        obtain ⟨cc, ec⟩ := own_ty (HL1b.out.on HB45.out) hj
        obtain ⟨c5, e5⟩ := own_ty HX5.out e.symm
        exact absurd rfl (row_ne ec e5 (by decide)))))
      have HL26 := hid (show Lo W.heap.size w6 q2 e2 f2 from own_same (HL2.out.on HB45.out) (fun j hj => HG6.out.block j (by obtain ⟨cc, ec⟩ := own_ty (HL2.out.on HB45.out) hj; exact row_lt ec) (by
        intro e
        obtain ⟨cc, ec⟩ := own_ty (HL2.out.on HB45.out) hj
        obtain ⟨c5, e5⟩ := own_ty HX5.out e.symm
        exact absurd rfl (row_ne ec e5 (by decide)))))
      have CZ1 := hid (CZ.out w6 (btr HB.out HB6.out) q2 e2 HL26.out.rl)
      rw [HF2.out] at CZ1
      clear CZ CY1 HL1b HL2 HX5 HY5 HG6 HB45 HX4 HB4 HB5 k0 k1 k2 k3
      obtain ⟨k0, k1, k2, k3⟩ := row4 (row_on HP.out HB6.out)
      obtain ⟨nXY, hnXY⟩ : ∃ n, nX + nY = n := ⟨_, rfl⟩
      rw [hnXY] at HO6 ⊢
      have HXY := hid hnXY
      clear hnXY
      have bXY : nXY ≤ nX + 128 := by have := HXY.out; omega
      go_upto_region 16 with (first | (go_at_call 33; with_reducible refine (CZ1.out).mono ?_; rintro e w7 ⟨qz, dz, rfl, hd, hb⟩; have HB7 := hid (btr HB6.out hb); have HB67 := hid hb; have HX7 := hid (own_on HO6.out hb); have HZ7 := hid (show w7.ownsRow w6.heap.size 48 6 (.slice qz nZ dz) nZ (dvc Z) from by unfold Dw at hd; rw [HNZ.out] at hd; exact hd); clear hb hd) | (at_builtin; refine wpList_app_rd (by rfl) (.tmp 70) (.tmp 75) 39 48 _ 6 48 (by rfl) Try.underlying39 infoD6 rfl (by decide) W.heap.size _ nXY (dvc (X ++ Y)) (by rfl) HX7.out qz dz nZ (dvc Z) (by rfl) (own_cap HZ7.out).2.2 HLZ.out (fun ad e => by subst e; exact (own_cells HZ7.out).2) (dvc_one _) (by unfold maxLen; omega) (by omega) HB7.out.size ?_; intro v' w8 hown hgrow; obtain ⟨q8, d8, rfl⟩ := own_form hown; have HO8 := hid (show w8.ownsRow W.heap.size 48 6 (.slice q8 (nXY + nZ) d8) (nXY + nZ) (dvc (X ++ Y ++ Z)) from by rw [dvc_app]; exact hown); have HB8 := hid (below_grown (base := 0) HB7.out HX7.out hgrow); have HG8 := hid hgrow; clear hown hgrow))
      have HL18 := hid (show Lo W.heap.size w8 q1 e1 f1 from own_same (HL16.out.on HB67.out) (fun j hj => HG8.out.block j (by obtain ⟨cc, ec⟩ := own_ty (HL16.out.on HB67.out) hj; exact row_lt ec) (by
        intro e
        obtain ⟨cc, ec⟩ := own_ty (HL16.out.on HB67.out) hj
        obtain ⟨c5, e5⟩ := own_ty HX7.out e.symm
        exact absurd rfl (row_ne ec e5 (by decide)))))
      have HL28 := hid (show Lo W.heap.size w8 q2 e2 f2 from own_same (HL26.out.on HB67.out) (fun j hj => HG8.out.block j (by obtain ⟨cc, ec⟩ := own_ty (HL26.out.on HB67.out) hj; exact row_lt ec) (by
        intro e
        obtain ⟨cc, ec⟩ := own_ty (HL26.out.on HB67.out) hj
        obtain ⟨c5, e5⟩ := own_ty HX7.out e.symm
        exact absurd rfl (row_ne ec e5 (by decide)))))
      have hnn : nXY + nZ = nT := by rw [← HTL.out, ← HTT.out, List.length_append, List.length_append, HNX.out, HNY.out, HNZ.out, HXY.out]
      rw [hnn] at HO8 ⊢
      rw [HTT.out] at HO8
      have hnb : nT ≤ nX + 256 := by omega
      have ST := hid (show Nv W sq T q8 d8 q1 e1 f1 q2 e2 f2 0 w8 from ⟨by rw [nmi_zero, HTL.out]; exact HO8.out, HL18.out, HL28.out, HB8.out⟩)
      clear hnn HL16 HL26 HX7 HZ7 HG8 HB67 CZ1 k0 k1 k2 k3 HO6 HB6 HB7 HLY HLZ HXY bXY HNX HNY HNZ HL18 HL28 HO8 HB8 hYl hZl HBr
      go_wp2
      go_loopw [17] (fun iv wr => ∃ (i : Nat), i ≤ nT ∧ iv = .int .i64 i ∧ Hid (Nv W sq T q8 d8 q1 e1 f1 q2 e2 f2 i wr)) (fun iv _ => nT - (intOf iv).toNat)
      case atStart => exact ⟨0, by omega, rfl, ST.out⟩
      case round =>
        obtain ⟨i2, hi2, rfl, HC⟩ := hrel
        clear ST
        by_cases hlt2 : i2 < nT
        · obtain ⟨g, cur, eq8, hg1, hg2, hg3, hg4, hg5⟩ := own_at HC.out.o (by rw [HTL.out]; omega)
          subst eq8
          have k1 := row_cell (row_on HP.out HC.out.b) 1
          have hiT : i2 < T.length := by rw [HTL.out]; exact hlt2
          obtain ⟨x, hx⟩ : ∃ x, IntKind.u64.wrap (sq + (i2 : Int)) = x := ⟨_, rfl⟩
          obtain ⟨y, hy⟩ : ∃ y, IntKind.u64.wrap (x + 1) = y := ⟨_, rfl⟩
          have HY := hid (show y = uw (sq + i2 + 1) from by rw [← hy, ← hx]; exact uw_succ _)
          have HOUn := hid HC.out.o
          have hlen : i2 * 6 < cur.size := by have := hg3; rw [HTL.out] at this; omega
          obtain ⟨cv, hcv⟩ : ∃ cv, cur[i2 * 6]? = some cv := ⟨_, Array.getElem?_eq_getElem hlen⟩
          have z2 : wr.cell? ⟨g, i2 * 6, none⟩ = some cv := by rw [row_cell hg2]; exact hcv
          have z3 := row_frz hg2 (i2 * 6)
          have i0 : (0 : Int) ≤ (i2 : Int) := by omega
          have i1 : (i2 : Int) < (nT : Int) := by omega
          have i3 : IntKind.u64.wrap (i2 : Int) = (i2 : Int) := by rw [IntKind.wrap_u64]; omega
          have HG1 := hid hg1
          have HG2 := hid hg2
          rw [HTL.out] at hg3
          unfold maxLen at hg4
          clear hg1 hg2 hg5 hlen
          go_wp2
          go_roundw
          case rel =>
            refine ⟨i2 + 1, by omega, by go_num, ?_⟩
            refine ⟨?_, ?_, ?_, ?_⟩
            · have := own_setc (j := i2 * 6) (u := .int .u64 y) HOUn.out (by rw [HTL.out]; omega)
              rw [nmi_succ sq T i2 hiT, dvc_set _ i2 _ (nmi_get sq T i2 hiT), ← HY.out]
              exact this
            · exact own_ne HC.out.l1 HG2.out (by decide) (fun j hj => heap_setCell_other _ _ _ _ hj)
            · exact own_ne HC.out.l2 HG2.out (by decide) (fun j hj => heap_setCell_other _ _ _ _ hj)
            · exact HC.out.b.trans ((Kp.set _ _ _ _).below HC.out.b.size (fun b hb e => by have := HG1.out; omega))
          case measure => simp [intOf]; omega
        · obtain rfl : i2 = nT := by omega
          obtain ⟨j0, j1, j2, j3⟩ := row4 (row_on HP.out HC.out.b)
          have t1 := row_frz (row_on HP.out HC.out.b) 1
          have t2 := row_frz (row_on HP.out HC.out.b) 2
          have t3 := row_frz (row_on HP.out HC.out.b) 3
          obtain ⟨x, hx⟩ : ∃ x, IntKind.u64.wrap (sq + (i2 : Int)) = x := ⟨_, rfl⟩
          have i3 : IntKind.u64.wrap (i2 : Int) = (i2 : Int) := by rw [IntKind.wrap_u64]; omega
          have HXX := hid (show x = uw (sq + i2) from hx.symm)
          go_upto_region 21 with fail
          obtain ⟨V, hV⟩ : ∃ V, ((wr.setCell ⟨R, 1, none⟩ (.int .u64 x)).setCell ⟨R, 2, none⟩ (.slice q1 nf1 e1)).setCell ⟨R, 3, none⟩ (.slice q2 nf2 e2) = V := ⟨_, rfl⟩
          have HVR := hid (show V.heap[R]? = some (.cells #[.int .i64 d, .int .u64 x, .slice q1 nf1 e1, .slice q2 nf2 e2] 32 (0, 0)) from by rw [← hV]; exact set_row _ (set_row _ (set_row _ (row_on HP.out HC.out.b))))
          have HVZ := hid (show V.heap[R + 1]? = some (.cells #[.int .i64 0, .int .u64 0, .slice none 0 0, .slice none 0 0] 32 (0, 0)) from by rw [← hV]; exact set_oth _ (set_oth _ (set_oth _ (row_on HZ.out HC.out.b) (by omega)) (by omega)) (by omega))
          have HVO := hid (show ∀ j, j ≠ R → V.heap[j]? = wr.heap[j]? from fun j hj => by rw [← hV]; exact set_oth _ (set_oth _ (set_oth _ rfl hj) hj) hj)
          have HVB := hid (show Below w.heap.size w V from by rw [← hV]; exact set_below (set_below (set_below (btr HB.out HC.out.b) (by have := HR.out; omega)) (by have := HR.out; omega)) (by have := HR.out; omega))
          rw [hV]
          clear hV j0 j1 j2 j3 t1 t2 t3
          obtain ⟨j0, j1, j2, j3⟩ := row4 HVR.out
          have BI := hid (show (Try.prog.info? 32).map (·.size) = some (#[.int .i64 d, .int .u64 x, .slice q1 nf1 e1, .slice q2 nf2 e2] : Array Value).size from infoRP)
          have BS := hid (show (#[.int .i64 0, .int .u64 0, .slice none 0 0, .slice none 0 0] : Array Value).size = (#[.int .i64 d, .int .u64 x, .slice q1 nf1 e1, .slice q2 nf2 e2] : Array Value).size from rfl)
          have BA := hid (show (#[.int .i64 d, .int .u64 x, .slice q1 nf1 e1, .slice q2 nf2 e2] : Array Value).all (·.oneCell') = true from by simp [Value.oneCell'])
          go_wp2_with (refine wpList_store_row (by rfl) 32 (.tmp 8) (.tmp 105) (by rfl) (R + 1) #[.int .i64 d, .int .u64 x, .slice q1 nf1 e1, .slice q2 nf2 e2] (by rfl) (by rfl) 32 _ HVZ.out BI.out BS.out BA.out ?_)
          refine bodyPost_ret (res_ctt (fn := Try.f11) Try.results11 _ _ (R + 1) 32 #[.int .i64 d, .int .u64 x, .slice q1 nf1 e1, .slice q2 nf2 e2] (0, 0) _ (.slice q8 i2 d8) (.int .i64 0) (by rfl) (by rfl) (by rfl) (setRow_heap _ _ _ _ 32 (0, 0) HVZ.out) Try.underlying32 rfl infoRP) rfl ⟨?_, .inr ⟨TOK.out, q8, d8, q1, e1, q2, e2, ?_, ?_, ?_, ?_⟩⟩
          · exact setRow_below HVB.out (by have := HR.out; omega)
          · rw [HF1.out, HF2.out, ← HXX.out]
          · have a : Dw W.heap.size wr q8 d8 (nmb sq T) := by
              unfold Dw
              have := HC.out.o
              rw [← HTL.out, nmi_all] at this
              rw [nmb_len]
              exact this
            have b : Dw W.heap.size V q8 d8 (nmb sq T) := own_ne a (row_on HP.out HC.out.b) (by decide) HVO.out
            exact own_base (own_ne b HVZ.out (by decide) (fun j hj => setRow_other _ _ _ _ hj)) HB.out.size
          · have b : Lo W.heap.size V q1 e1 f1 := own_ne HC.out.l1 (row_on HP.out HC.out.b) (by decide) HVO.out
            exact own_base (own_ne b HVZ.out (by decide) (fun j hj => setRow_other _ _ _ _ hj)) HB.out.size
          · have b : Lo W.heap.size V q2 e2 f2 := own_ne HC.out.l2 (row_on HP.out HC.out.b) (by decide) HVO.out
            exact own_base (own_ne b HVZ.out (by decide) (fun j hj => setRow_other _ _ _ _ hj)) HB.out.size
end Go.Proofs.Ytiphgfghdbmlcaa
