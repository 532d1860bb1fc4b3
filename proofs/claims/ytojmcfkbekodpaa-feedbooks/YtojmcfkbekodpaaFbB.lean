/-
  FeedBooks: the walk of a feed over a book.
-/
import Derived.Test.YtojmcfkbekodpaaKt
namespace Go.Proofs.Ytojmcfkbekodpaa
open Go.RowKit Go.Deep Go.Shelf
set_option linter.unusedVariables false
set_option linter.unusedSimpArgs false
set_option maxHeartbeats 16000000
set_option maxRecDepth 100000
attribute [local go_sem ↓] Go.wp_at_zero Go.wp_at_succ
theorem re_kept {w w' : World} {P : Nat} {p : Option Addr} {c : Nat} {es : List Ev} {x : Array Value} (h : w.ownsRow 0 45 13 (.slice p es.length c) es.length (evs es)) (hk : Kp (fun b => b = P) w w') (hP : w.heap[P]? = some (.cells x 73 (0, 0))) : Fd.Re w' p c (es.map fev) := by
  have h' := Fd.own_same h (fun g hg => by
    obtain ⟨cur, hc⟩ := Fd.own_ty h hg
    exact hk.obj g (row_lt hc) (fun e => row_ne hc hP (by decide) e))
  have hcells : Fd.evc (es.map fev) = evs es := by
    simp only [Fd.evc, evs, List.flatMap_map]
    rfl
  have hcp := Fd.own_cap h'
  refine ⟨fun e => ?_, by rw [List.length_map]; exact hcp.1, hcp.2.1, fun ad e => ?_⟩
  · obtain ⟨h1, h2⟩ := hcp.2.2 e
    exact ⟨by rw [List.eq_nil_of_length_eq_zero h1]; rfl, h2⟩
  · subst e
    rw [hcells]
    exact (Fd.own_cells h').2
theorem uw_next (s : Int) (k : Nat) : IntKind.u64.wrap (Fd.uw (s + k) + 1) = Fd.uw (s + k + 1) := by
  unfold Fd.uw
  rw [IntKind.wrap_u64, IntKind.wrap_u64, IntKind.wrap_u64]
  omega
theorem books_ok (d : Nat) (d1 : 1 ≤ d) (d2 : d ≤ 64) (cap meet : Int) (hcf : cfg cap meet = true) (q : Option Addr) (c0 : Nat) (l : List Cm) (W : World) (hl : Cmz W q l) (hok : ∀ c ∈ l, CmOk c) (hm : l.length ≤ maxLen) :
    Calls Try.prog 3 #[.int .i64 d, .agg #[.int .i64 cap, .int .i64 meet], .slice q l.length c0] W fun e w' => e = .returned (.bool true) ∧ Below W.heap.size W w' := by
  have HW := hid (World.alloc_heap_new W (.cells #[.int .i64 cap, .int .i64 meet] 23))
  have HB0 := hid (ball W (.cells #[.int .i64 cap, .int .i64 meet] 23))
  obtain ⟨W1, hW⟩ : ∃ W1, W.alloc (.cells #[.int .i64 cap, .int .i64 meet] 23) = W1 := ⟨_, rfl⟩
  rw [hW] at HW HB0
  have CL := hid (Fd.lives_ok W1)
  have CP := hid (fun U => Fd.newP_ok d d1 d2 U)
  have CN := hid (show ∀ U, Calls Try.prog 9 #[.agg #[.int .i64 cap, .int .i64 meet]] U fun e w' => ∃ B b, e = .returned (.tuple #[.pointer (some ⟨B, 0, none⟩), .int .i64 0]) ∧ Pl U B b w' ∧ Snd b from fun U => by
    refine (pl_new cap meet U).mono ?_
    rintro e w' (⟨h1, _⟩ | ⟨h1, B, b, rfl, h2, h3⟩)
    · rw [hcf] at h1; cases h1
    · exact ⟨B, b, rfl, h2, h3.snd hcf⟩)
  obtain ⟨n, hnn⟩ : ∃ n, l.length = n := ⟨_, rfl⟩
  have HN := hid hnn
  rw [hnn] at hm ⊢
  have hm' : n < 9223372036854775808 := by unfold maxLen at hm; omega
  have HL := hid hl
  have HOK := hid hok
  have HE := hid hW
  have HD := hid (And.intro d1 d2)
  clear hW hl hok hnn hm hcf d1 d2
  go_enter Try.func3, Try.ntmps3
  go_upto_region 1 with fail
  rw [HE.out]
  go_upto_region 4 with (first | (go_at_call 7; with_reducible refine (CL.out).mono ?_; rintro e w1 ⟨rfl, hb⟩; have HB1 := hid hb; clear hb) | (go_at_call 8; with_reducible refine (CP.out _).mono ?_; rintro e w2 ⟨P, rfl, hp, hP, hb⟩; have HP := hid hp; have HPP := hid hP; have HB2 := hid hb; clear hb hp hP))
  have k0 := row_cell (row_on HW.out (btr HB1.out HB2.out)) 0
  have k1 := row_cell (row_on HW.out (btr HB1.out HB2.out)) 1
  simp only [List.getElem?_toArray, List.getElem?_cons_succ, List.getElem?_cons_zero] at k0 k1
  go_upto_region 5 with (go_at_call 9; with_reducible refine (CN.out _).mono ?_; rintro e w3 ⟨B, b0, rfl, h1, h2⟩; have HPL := hid h1; have HSN := hid h2; clear h1 h2)
  have ST := hid (show Js W1 B P d b0 0 [] [] w3 from ⟨HPL.out.back (btr HB1.out HB2.out), HSN.out, Pq.on ⟨none, 0, none, 0, HP.out, Fd.Lo.nil0 _ _, Fd.Lo.nil0 _ _⟩ HPL.out.be, Nat.le_trans HB1.out.size HPP.out⟩)
  clear k0 k1 CL CP CN HW HPL HSN HP HPP HB1 HB2 HE
  go_wp2
  go_loopw [11, 12] (fun sv iv wr => ∃ (i : Nat) (b : Bs) (sq : Int) (l1 l2 : List Fd.Lv), i ≤ n ∧ iv = .int .i64 i ∧ sv = .int .u64 sq ∧ Hid (Js W1 B P d b sq l1 l2 wr)) (fun _ iv _ => n - (intOf iv).toNat)
  case atStart => exact ⟨0, b0, 0, [], [], Nat.zero_le _, rfl, rfl, ST⟩
  case round =>
    obtain ⟨i, b, sq, l1, l2, hin, rfl, rfl, HJ⟩ := hrel
    by_cases hlt : i < n
    · have hil : i < l.length := by rw [HN.out]; exact hlt
      have hck := HOK.out l[i] (List.getElem_mem hil)
      obtain ⟨qb, qo, hq, a0, a1, a2, a3, a4, a5, a6, a7, a8⟩ := cmz_cells HL.out (btr HB0.out HJ.out.pl.be) hil
      obtain ⟨c, hc⟩ : ∃ c, l[i] = c := ⟨_, rfl⟩
      rw [hc] at hck a0 a1 a2 a3 a4 a5 a6 a7 a8
      clear hc
      subst hq
      have CD := hid (js_do c HJ.out hck)
      unfold cmr at CD
      clear hck
      have i0' : (0 : Int) ≤ (i : Int) := by omega
      have i1 : (i : Int) < (n : Int) := by omega
      go_upto_region 12 with (go_at_call 10; with_reducible refine (CD.out).mono ?_; rintro e w4 ⟨b', p2, q2, es, rfl, h1, h2, h3, h4, h5, h6⟩; have J4 := hid h1; have RE4 := hid h2; have TR4 := hid h4; have LN4 := hid h5; have OW4 := hid h6; clear h1 h2 h3 h4 h5 h6)
      clear a0 a1 a2 a3 a4 a5 a6 a7 a8 CD
      have CX1 := hid (show Calls Try.prog 12 #[.pointer (some ⟨B, 0, none⟩), .int .i64 1, .int .i64 4096] w4 _ from js_depth 1 4096 J4.out (.inl rfl))
      have CX2 := hid (show ∀ U, Below w4.heap.size w4 U → Calls Try.prog 12 #[.pointer (some ⟨B, 0, none⟩), .int .i64 2, .int .i64 4096] U _ from fun U hU => js_depth 2 4096 (J4.out.on hU) (.inr rfl))
      have HPR := hid (show ∃ x, w4.heap[P]? = some (.cells x 73 (0, 0)) from by obtain ⟨_, _, _, _, h, _⟩ := J4.out.pq; exact ⟨_, h.row⟩)
      have HT := hid (show (tdl l1 l2 b' d (es.map fev)).length ≤ es.length + 256 from by
        obtain ⟨_, _, _, _, h, _⟩ := J4.out.pq
        have := tdl_len (b := b') (d := d) (E := es.map fev) h.n1 h.n2 HD.out.2
        rw [List.length_map] at this
        exact this)
      obtain ⟨T, hT⟩ : ∃ T, tdl l1 l2 b' d (es.map fev) = T := ⟨_, rfl⟩
      obtain ⟨E, hE⟩ : ∃ E, es.map fev = E := ⟨_, rfl⟩
      obtain ⟨m, hmE⟩ : ∃ m, es.length = m := ⟨_, rfl⟩
      obtain ⟨t, htT⟩ : ∃ t, T.length = t := ⟨_, rfl⟩
      obtain ⟨nb, hnb⟩ : ∃ t, (bl b' 1 4096).length = t := ⟨_, rfl⟩
      obtain ⟨ns, hns⟩ : ∃ t, (bl b' 2 4096).length = t := ⟨_, rfl⟩
      have CPB := hid (show ∀ (U : World) (pb ps : Option Addr) (cb cs : Nat), Below w4.heap.size w4 U → Fd.Rl U pb cb (bl b' 1 4096) → Fd.Rl U ps cs (bl b' 2 4096) → Calls Try.prog 11 #[.pointer (some ⟨P, 0, none⟩), .slice pb nb cb, .slice ps ns cs, .slice p2 m q2] U fun e w' => ∃ q dd, e = .returned (.tuple #[.slice q t dd, .int .i64 0]) ∧ Hid (Fd.Dw U.heap.size w' q dd (Fd.nmb sq T)) ∧ Hid (Js W1 B P d b' (Fd.uw (sq + t)) (bl b' 1 d) (bl b' 2 d) w') ∧ Hid (Fd.Re w' p2 q2 E) from fun U pb ps cb cs hU r1 r2 => by
        have h := js_publish (J4.out.on hU) TR4.out LN4.out (show d ≤ 4096 by have := HD.out.2; omega) r1 r2 (RE4.out.on hU)
        have hTD : Fd.trd (es.map fev) ++ Fd.chg 1 l1 (bl b' 1 d) ++ Fd.chg 2 l2 (bl b' 2 d) = T := hT
        rw [hTD, Fd.nmb_len, htT, hmE, hnb, hns] at h
        refine h.mono ?_
        rintro e w' ⟨q, dd, h1, h2, h3, h4⟩
        refine ⟨q, dd, h1, h2, h3, ?_⟩
        obtain ⟨x, hx⟩ := HPR.out
        rw [← hE]
        exact re_kept (Fd.own_on (by have := OW4.out; exact this) hU) h4 (row_on hx hU))
      have HTD := hid hT
      have HLE := hid (show E.length = m from by rw [← hE, List.length_map, hmE])
      rw [hE] at HTD
      have hm0 : m ≤ 8600000001 := by have := LN4.out; omega
      have ht0 : t ≤ m + 256 := by have := HT.out; rw [hT] at this; omega
      have HTT := hid htT
      rw [hnb] at CX1
      have CX2' := hid (show ∀ U, Below w4.heap.size w4 U → Calls Try.prog 12 #[.pointer (some ⟨B, 0, none⟩), .int .i64 2, .int .i64 4096] U fun e w' => ∃ p c, e = .returned (.slice p ns c) ∧ Fd.Rl w' p c (bl b' 2 4096) ∧ Below U.heap.size U w' from fun U hU => by have := CX2.out U hU; rw [hns] at this; exact this)
      rw [hmE]
      clear hT hE hmE htT hnb hns CX2 HT hil
      go_upto_region 13 with (first | (go_at_call 12; with_reducible refine (CX1.out).mono ?_; rintro e w5 ⟨pb, cb, rfl, h1, h2⟩; have R5 := hid h1; have B5 := hid h2; clear h1 h2) | (go_at_call 12; with_reducible refine (CX2'.out _ B5.out).mono ?_; rintro e w6 ⟨ps, cs, rfl, h1, h2⟩; have R6 := hid h1; have B6 := hid h2; clear h1 h2) | (go_at_call 11; with_reducible refine (CPB.out _ _ _ _ _ (btr B5.out B6.out) (R5.out.on B6.out) R6.out).mono ?_; rintro e w7 ⟨pm, cm, rfl, D7, J7, RE7⟩))
      have D7' := hid (D7.out.base (Nat.zero_le _))
      clear D7 R5 B5 R6 B6 CX1 CX2' CPB HPR RE4 OW4 TR4 LN4 J4
      have hsq : 0 ≤ sq ∧ sq < 18446744073709551616 := by obtain ⟨_, _, _, _, h, _⟩ := HJ.out.pq; exact h.sq
      have HSQ := hid hsq
      clear HJ hsq
      go_wp2
      go_loopw [16, 17] (fun nv kv wr => ∃ (k : Nat), k ≤ m ∧ kv = .int .i64 k ∧ nv = .int .i64 (Fd.trd (E.take k)).length ∧ Hid (Below w7.heap.size w7 wr)) (fun _ kv _ => m - (intOf kv).toNat)
      case atStart => exact ⟨0, Nat.zero_le _, rfl, by simp [Fd.trd], Below.refl _ _⟩
      case round =>
        obtain ⟨k, hkm, rfl, rfl, HB⟩ := hrel
        have HTL := hid (show (Fd.trd (E.take k)).length ≤ k from by
          unfold Fd.trd
          rw [List.length_map]
          exact Nat.le_trans (List.length_filter_le _ _) (by rw [List.length_take]; omega))
        obtain ⟨j, hj⟩ : ∃ j, (Fd.trd (E.take k)).length = j := ⟨_, rfl⟩
        have hjk : j ≤ k := by have := HTL.out; omega
        have HJJ := hid hj
        rw [hj]
        clear hj HTL
        by_cases hkl : k < m
        · have hkE : k < E.length := by rw [HLE.out]; exact hkl
          obtain ⟨ge, oe, hpe, _, a0, a1, a2, a3, a4, a5, a6, a7, a8, a9, a10, a11, a12⟩ := (RE7.out.on HB.out).cells hkE
          have HST := hid (trd_step hkE)
          have HTA := hid (fun h3 => tdl_trade (l1 := l1) (l2 := l2) (b := b') (d := d) hkE h3)
          rw [HTD.out] at HTA
          rw [HJJ.out] at HST HTA
          obtain ⟨z, hz⟩ : ∃ z, E[k] = z := ⟨_, rfl⟩
          rw [hz] at a0 a1 a2 a3 a4 a5 a6 a7 a8 a9 a10 a11 a12 HST HTA
          clear hz
          subst hpe
          have y0 : (0 : Int) ≤ (k : Int) := by omega
          have y1 : (k : Int) < (m : Int) := by omega
          go_upto_region 18 with fail
          obtain ⟨X, hX⟩ : ∃ X, wr.alloc (.cells #[.int .u64 z.sq, .int .i64 z.kd, .int .u64 z.id, .int .u64 z.ot, .int .u64 z.tg, .int .u32 z.mb, .int .i64 z.sd, .int .i64 z.ty, .int .i64 z.pr, .int .u64 z.qt, .int .u64 z.pk, .int .i64 z.rs, .int .i64 z.cd] 45) = X := ⟨_, rfl⟩
          have HBX := hid (show Below wr.heap.size wr X from by rw [← hX]; exact ball _ _)
          obtain ⟨v, hv⟩ : ∃ v, wr.heap.size = v := ⟨_, rfl⟩
          have hr : X.heap[v]? = some (.cells #[.int .u64 z.sq, .int .i64 z.kd, .int .u64 z.id, .int .u64 z.ot, .int .u64 z.tg, .int .u32 z.mb, .int .i64 z.sd, .int .i64 z.ty, .int .i64 z.pr, .int .u64 z.qt, .int .u64 z.pk, .int .i64 z.rs, .int .i64 z.cd] 45 (0, 0)) := by rw [← hX, ← hv]; exact World.alloc_heap_new _ _
          rw [hX, hv]
          have v1 := row_cell hr 1
          have v6 := row_cell hr 6
          have v8 := row_cell hr 8
          have v9 := row_cell hr 9
          simp only [List.getElem?_toArray, List.getElem?_cons_succ, List.getElem?_cons_zero] at v1 v6 v8 v9
          clear hX hv hr a0 a1 a2 a3 a4 a5 a6 a7 a8 a9 a10 a11 a12
          by_cases hk3 : z.kd = 3
          · obtain ⟨hjt, htr⟩ := HTA.out hk3
            have hjt' : j < t := by have := HTT.out; omega
            obtain ⟨gm, hpm, hgm, b0, b1, b2, b3, b4, b5⟩ := Fd.Dw.cells (D7'.out.on (btr HB.out HBX.out)) (i := j) (by rw [Fd.nmb_len]; exact hjt)
            rw [nmb_at hjt, htr] at b0 b1 b2 b3 b4 b5
            simp only [Fd.tr1] at b0 b1 b2 b3 b4 b5
            subst hpm
            rw [hk3] at v1
            have z0 : (0 : Int) ≤ (j : Int) := by omega
            have z1 : (j : Int) < (t : Int) := by omega
            have g1 : decide ((t : Int) ≤ (j : Int)) = false := by simp; try omega
            have g2 : ¬ ((t : Int) ≤ (j : Int)) := by omega
            have x1 : IntKind.u64.wrap (j : Int) = (j : Int) := by rw [IntKind.wrap_u64]; omega
            have x2 : IntKind.u64.wrap (IntKind.u64.wrap (sq + (j : Int)) + 1) = Fd.uw (sq + j + 1) := uw_next sq j
            obtain ⟨u, hu⟩ : ∃ u, Fd.uw (sq + j + 1) = u := ⟨_, rfl⟩
            rw [hu] at b0 x2
            have qq : ∀ U, (Op.equalIn 10000 47 (.agg #[.int .u64 u, .int .i64 2, .int .i64 z.sd, .int .i64 z.pr, .int .u64 z.qt, .int .i64 0]) (.agg #[.int .u64 u, .int .i64 2, .int .i64 z.sd, .int .i64 z.pr, .int .u64 z.qt, .int .i64 0])).run Try.prog U = .ok true U := fun U => Fd.eqD_same ⟨u, 2, z.sd, z.pr, z.qt, 0⟩ U
            go_upto_region 19 with fail
            go_big_quiet (fail)
            go_wp2
            go_roundw
            case rel => exact ⟨k + 1, by omega, by go_num, by rw [HST.out, if_pos hk3]; go_num, btr (btr HB.out HBX.out) (bdrew _ _)⟩
            case measure => simp [intOf]; omega
          · have hk3' : (z.kd == 3) = false := by simpa using hk3
            go_wp2
            go_roundw
            case rel => exact ⟨k + 1, by omega, by go_num, by rw [HST.out, if_neg hk3]; simp, btr HB.out HBX.out⟩
            case measure => simp [intOf]; omega
        · have hk5 : k = m := by omega
          subst hk5
          have HEj := hid (show (Fd.trd E).length = j from by have := HJJ.out; rw [List.take_of_length_le (by have := HLE.out; omega)] at this; exact this)
          have J8 := hid (J7.out.on HB.out)
          have D8 := hid (D7'.out.on HB.out)
          clear J7 D7' RE7 HJJ
          go_wp2
          go_loopw [11, 19] (fun sv kv w8 => ∃ (i : Nat), i ≤ t ∧ kv = .int .i64 i ∧ sv = .int .u64 (Fd.uw (sq + i)) ∧ Hid (Below wr.heap.size wr w8)) (fun _ kv _ => t - (intOf kv).toNat)
          case atStart => exact ⟨0, Nat.zero_le _, rfl, by rw [show sq + ((0 : Nat) : Int) = sq by omega, Fd.uw_eq, Int.emod_eq_of_lt HSQ.out.1 HSQ.out.2], Below.refl _ _⟩
          case round =>
            obtain ⟨k2, hk2, rfl, rfl, HB8⟩ := hrel
            by_cases hk2t : k2 < t
            · have hk2T : k2 < T.length := by rw [HTT.out]; exact hk2t
              obtain ⟨gm, hpm, hgm, e0, e1, e2, e3, e4, e5⟩ := Fd.Dw.cells (D8.out.on HB8.out) (i := k2) (by rw [Fd.nmb_len]; exact hk2T)
              rw [nmb_at hk2T] at e0 e1
              dsimp only at e0 e1
              clear e2 e3 e4 e5
              subst hpm
              have HKD := hid (show j ≤ k2 → T[k2].kd = 1 from fun hjk2 => by
                obtain ⟨TT, hTT⟩ : ∃ TT, T = TT := ⟨_, rfl⟩
                have h1 : k2 < (tdl l1 l2 b' d E).length := by rw [HTD.out]; exact hk2T
                have h2 := tdl_level h1 (by rw [HEj.out]; exact hjk2)
                have h3 : (tdl l1 l2 b' d E)[k2] = T[k2] := by congr 1
                rw [h3] at h2
                exact h2)
              obtain ⟨kd, hkd⟩ : ∃ x, T[k2].kd = x := ⟨_, rfl⟩
              rw [hkd] at e1 HKD
              clear hkd
              have x3 := uw_next sq k2
              obtain ⟨u0, hu0⟩ : ∃ u, Fd.uw (sq + k2) = u := ⟨_, rfl⟩
              obtain ⟨u1, hu1⟩ : ∃ u, Fd.uw (sq + k2 + 1) = u := ⟨_, rfl⟩
              have HU1 := hid (show Fd.uw (sq + ((k2 + 1 : Nat) : Int)) = u1 from by rw [← hu1, show sq + ((k2 + 1 : Nat) : Int) = sq + k2 + 1 by omega])
              rw [hu0] at x3 ⊢
              rw [hu1] at x3 e0
              clear hu0 hu1
              have s0 : (0 : Int) ≤ (k2 : Int) := by omega
              have s1 : (k2 : Int) < (t : Int) := by omega
              by_cases hjk2 : j ≤ k2
              · have hkd1 := HKD.out hjk2
                subst hkd1
                have g3 : decide ((j : Int) ≤ (k2 : Int)) = true := by simp; try omega
                go_wp2
                go_roundw
                case rel => exact ⟨k2 + 1, by omega, by go_num, by rw [HU1.out], HB8.out⟩
                case measure => simp [intOf]; omega
              · have g3 : decide ((j : Int) ≤ (k2 : Int)) = false := by simp; try omega
                go_wp2
                go_roundw
                case rel => exact ⟨k2 + 1, by omega, by go_num, by rw [HU1.out], HB8.out⟩
                case measure => simp [intOf]; omega
            · have hk5 : k2 = t := by omega
              subst hk5
              have J9 := hid (J8.out.on HB8.out)
              clear J8 D8
              obtain ⟨n1, hn1⟩ : ∃ x, (bl b' 1 d).length = x := ⟨_, rfl⟩
              obtain ⟨n2, hn2⟩ : ∃ x, (bl b' 2 d).length = x := ⟨_, rfl⟩
              obtain ⟨s9, hs9⟩ : ∃ x, Fd.uw (sq + ((k2 : Nat) : Int)) = x := ⟨_, rfl⟩
              have CPI := hid (show Calls Try.prog 13 #[.pointer (some ⟨P, 0, none⟩)] _ fun e w' => ∃ q1 e1 q2 e2, e = .returned (.agg #[.int .u64 s9, .slice q1 n1 e1, .slice q2 n2 e2]) ∧ Hid (Fd.Rl w' q1 e1 (bl b' 1 d)) ∧ Hid (Fd.Rl w' q2 e2 (bl b' 2 d)) ∧ Hid (Below _ _ w') from by
                obtain ⟨p1, c1, p2, c2, h1, h2, h3⟩ := J9.out.pq
                have h := Fd.pictureP_any P d _ p1 p2 c1 c2 _ _ _ h1.row h1.r1 h1.r2 (by have := h1.n1; omega) (by have := h1.n2; omega)
                rw [hn1, hn2, hs9] at h
                refine h.mono ?_
                rintro e w' ⟨q1, e1, q2, e2, g1, g2, g3, _, g5⟩
                exact ⟨q1, e1, q2, e2, g1, g2.rl, g3.rl, g5⟩)
              rw [hs9] at J9 ⊢
              have HS9 := hid hs9
              clear hs9
              go_upto_region 29 with (go_at_call 13; with_reducible refine (CPI.out).mono ?_; rintro e w9 ⟨q1, e1, q2, e2, rfl, R1, R2, B9⟩)
              have J10 := hid (J9.out.on B9.out)
              obtain ⟨X9, hX9⟩ : ∃ X, w9.alloc (.cells #[.int .u64 s9, .slice q1 n1 e1, .slice q2 n2 e2] 49) = X := ⟨_, rfl⟩
              obtain ⟨x9, hx9⟩ : ∃ x, w9.heap.size = x := ⟨_, rfl⟩
              have hb9 : Below w9.heap.size w9 X9 := by rw [← hX9]; exact ball _ _
              have hr9 : X9.heap[x9]? = some (.cells #[.int .u64 s9, .slice q1 n1 e1, .slice q2 n2 e2] 49 (0, 0)) := by rw [← hX9, ← hx9]; exact World.alloc_heap_new _ _
              rw [hX9, hx9]
              have J11 := hid (J10.out.on hb9)
              have RA := hid (R1.out.on hb9)
              have RB := hid (R2.out.on hb9)
              have HS := hid (show ∀ U, Below X9.heap.size X9 U → U.cell? ⟨x9, 0, none⟩ = some (.int .u64 s9) ∧ U.cell? ⟨x9, 1, none⟩ = some (.slice q1 n1 e1) ∧ U.cell? ⟨x9, 2, none⟩ = some (.slice q2 n2 e2) from fun U hU => ⟨row_cell (row_on hr9 hU) 0, row_cell (row_on hr9 hU) 1, row_cell (row_on hr9 hU) 2⟩)
              have CA := hid (show ∀ U, Below X9.heap.size X9 U → Calls Try.prog 12 #[.pointer (some ⟨B, 0, none⟩), .int .i64 1, .int .i64 d] U fun e w' => ∃ p c, e = .returned (.slice p n1 c) ∧ Hid (Fd.Rl w' p c (bl b' 1 d)) ∧ Hid (Below U.heap.size U w') from fun U hU => by have h := js_depth 1 d (J11.out.on hU) (.inl rfl); rw [hn1] at h; exact h)
              have CB := hid (show ∀ U, Below X9.heap.size X9 U → Calls Try.prog 12 #[.pointer (some ⟨B, 0, none⟩), .int .i64 2, .int .i64 d] U fun e w' => ∃ p c, e = .returned (.slice p n2 c) ∧ Hid (Fd.Rl w' p c (bl b' 2 d)) ∧ Hid (Below U.heap.size U w') from fun U hU => by have h := js_depth 2 d (J11.out.on hU) (.inr rfl); rw [hn2] at h; exact h)
              have CC := hid (show ∀ (U : World) (p : Option Addr) (c : Nat), Below X9.heap.size X9 U → Fd.Rl U p c (bl b' 1 d) → Calls Try.prog 14 #[.slice q1 n1 e1, .slice p n1 c] U fun e w' => e = .returned (.bool true) ∧ Hid (Below U.heap.size U w') from fun U p c hU hr => by have h := Fd.sameLevels_same q1 p e1 c (bl b' 1 d) U (RA.out.on hU) hr; rw [hn1] at h; exact h.mono (fun e w' hh => by obtain ⟨h1, k, rfl⟩ := hh; exact ⟨h1, bdrew _ _⟩))
              have CE := hid (show ∀ (U : World) (p : Option Addr) (c : Nat), Below X9.heap.size X9 U → Fd.Rl U p c (bl b' 2 d) → Calls Try.prog 14 #[.slice q2 n2 e2, .slice p n2 c] U fun e w' => e = .returned (.bool true) ∧ Hid (Below U.heap.size U w') from fun U p c hU hr => by have h := Fd.sameLevels_same q2 p e2 c (bl b' 2 d) U (RB.out.on hU) hr; rw [hn2] at h; exact h.mono (fun e w' hh => by obtain ⟨h1, k, rfl⟩ := hh; exact ⟨h1, bdrew _ _⟩))
              clear hX9 hx9 hb9 hr9 hn1 hn2 CPI
              obtain ⟨V1, hV1⟩ : ∃ U, X9.drew = U := ⟨_, rfl⟩
              have BV1 := hid (show Below X9.heap.size X9 V1 from by rw [← hV1]; exact bdrew1 _)
              refine wp_region_held_drew (S := fun U => U.cell? ⟨x9, 0, none⟩ = some (.int .u64 s9) ∧ U.cell? ⟨x9, 1, none⟩ = some (.slice q1 n1 e1) ∧ U.cell? ⟨x9, 2, none⟩ = some (.slice q2 n2 e2)) (by kernel_rfl) ?_ (fun hHeld => ?_)
              · (try dsimp only); rw [hV1]; exact HS.out _ BV1.out
              rw [hV1] at hHeld ⊢
              clear hV1
              refine' wpAnyH_take (i := 0) (oi := _) (v := _) rfl (by kernel_rfl) (by kernel_rfl) (by kernel_rfl) (fun _ _ _ h => h) (Or.inl ⟨by kernel_rfl, ?_⟩) (by assumption) ?_
              rotate_left
              · (intro w hSw; (try dsimp only at hSw); go_simp; try (with_reducible rfl))
              try simp only [List.getElem_toArray, List.getElem_cons_succ, List.getElem_cons_zero, Act.put, List.setIfInBounds_toArray, List.set_cons_zero, List.set_cons_succ]
              refine' wpAnyH_take (i := 1) (oi := _) (v := _) rfl (by kernel_rfl) (by kernel_rfl) (by kernel_rfl) (fun _ _ _ h => h) (Or.inl ⟨by kernel_rfl, ?_⟩) (by assumption) ?_
              rotate_left
              · (intro w hSw; (try dsimp only at hSw); go_simp; try (with_reducible rfl))
              try simp only [List.getElem_toArray, List.getElem_cons_succ, List.getElem_cons_zero, Act.put, List.setIfInBounds_toArray, List.set_cons_zero, List.set_cons_succ]
              refine' wpAnyH_take (i := 2) (oi := _) (v := _) rfl (by kernel_rfl) (by kernel_rfl) (by kernel_rfl) (fun _ _ _ h => h) (Or.inl ⟨by kernel_rfl, ?_⟩) (by assumption) ?_
              rotate_left
              · (intro w hSw; (try dsimp only at hSw); go_simp; try (with_reducible rfl))
              try simp only [List.getElem_toArray, List.getElem_cons_succ, List.getElem_cons_zero, Act.put, List.setIfInBounds_toArray, List.set_cons_zero, List.set_cons_succ]
              refine' wpAnyH_take (i := 3) (oi := _) (v := _) rfl (by kernel_rfl) (by kernel_rfl) (by kernel_rfl) (fun _ _ _ h => h) (Or.inl ⟨by kernel_rfl, ?_⟩) (by assumption) ?_
              rotate_left
              · (intro w hSw; (try dsimp only at hSw); go_simp; try (with_reducible rfl))
              try simp only [List.getElem_toArray, List.getElem_cons_succ, List.getElem_cons_zero, Act.put, List.setIfInBounds_toArray, List.set_cons_zero, List.set_cons_succ]
              refine' wpAnyH_take (i := 4) (oi := _) (v := _) rfl (by kernel_rfl) (by kernel_rfl) (by kernel_rfl) (fun _ _ _ h => h) (Or.inl ⟨by kernel_rfl, ?_⟩) (by assumption) ?_
              rotate_left
              · (intro w hSw; (try dsimp only at hSw); go_simp; try (with_reducible rfl))
              try simp only [List.getElem_toArray, List.getElem_cons_succ, List.getElem_cons_zero, Act.put, List.setIfInBounds_toArray, List.set_cons_zero, List.set_cons_succ]
              refine' wpAnyH_take (i := 5) (oi := _) (v := _) rfl (by kernel_rfl) (by kernel_rfl) (by kernel_rfl) (fun _ _ _ h => h) (Or.inl ⟨by kernel_rfl, ?_⟩) (by assumption) ?_
              rotate_left
              · (intro w hSw; (try dsimp only at hSw); go_simp; try (with_reducible rfl))
              try simp only [List.getElem_toArray, List.getElem_cons_succ, List.getElem_cons_zero, Act.put, List.setIfInBounds_toArray, List.set_cons_zero, List.set_cons_succ]
              refine' wpAnyH_take (i := 6) (oi := _) (v := _) rfl (by kernel_rfl) (by kernel_rfl) (by kernel_rfl) (fun _ _ _ h => h) (Or.inl ⟨by kernel_rfl, ?_⟩) (by assumption) ?_
              rotate_left
              · (intro w hSw; (try dsimp only at hSw); go_simp; try (with_reducible rfl))
              try simp only [List.getElem_toArray, List.getElem_cons_succ, List.getElem_cons_zero, Act.put, List.setIfInBounds_toArray, List.set_cons_zero, List.set_cons_succ]
              refine' wpAnyH_take (i := 7) (oi := _) (v := _) rfl (by kernel_rfl) (by kernel_rfl) (by kernel_rfl) (fun _ _ _ h => h) (Or.inl ⟨by kernel_rfl, ?_⟩) (by assumption) ?_
              rotate_left
              · (intro w hSw; (try dsimp only at hSw); go_simp; try (with_reducible rfl))
              try simp only [List.getElem_toArray, List.getElem_cons_succ, List.getElem_cons_zero, Act.put, List.setIfInBounds_toArray, List.set_cons_zero, List.set_cons_succ]
              refine' wpAnyH_take (i := 8) (oi := _) (v := _) rfl (by kernel_rfl) (by kernel_rfl) (by kernel_rfl) (fun _ _ _ h => h) (Or.inl ⟨by kernel_rfl, ?_⟩) (by assumption) ?_
              rotate_left
              · (intro w hSw; (try dsimp only at hSw); go_simp; try (with_reducible rfl))
              try simp only [List.getElem_toArray, List.getElem_cons_succ, List.getElem_cons_zero, Act.put, List.setIfInBounds_toArray, List.set_cons_zero, List.set_cons_succ]
              refine' wpAnyH_take (i := 9) (oi := _) (v := _) rfl (by kernel_rfl) (by kernel_rfl) (by kernel_rfl) (fun _ _ _ h => h) (Or.inl ⟨by kernel_rfl, ?_⟩) (by assumption) ?_
              rotate_left
              · (intro w hSw; (try dsimp only at hSw); go_simp; try (with_reducible rfl))
              try simp only [List.getElem_toArray, List.getElem_cons_succ, List.getElem_cons_zero, Act.put, List.setIfInBounds_toArray, List.set_cons_zero, List.set_cons_succ]
              refine' wpAnyH_take (i := 10) (oi := _) (v := _) rfl (by kernel_rfl) (by kernel_rfl) (by kernel_rfl) (fun _ _ _ h => h) (Or.inl ⟨by kernel_rfl, ?_⟩) (by assumption) ?_
              rotate_left
              · (intro w hSw; (try dsimp only at hSw); go_simp; try (with_reducible rfl))
              try simp only [List.getElem_toArray, List.getElem_cons_succ, List.getElem_cons_zero, Act.put, List.setIfInBounds_toArray, List.set_cons_zero, List.set_cons_succ]
              refine' wpAnyH_take (i := 11) (oi := _) (v := _) rfl (by kernel_rfl) (by kernel_rfl) (by kernel_rfl) (fun _ _ _ h => h) (Or.inl ⟨by kernel_rfl, ?_⟩) (by assumption) ?_
              rotate_left
              · (intro w hSw; (try dsimp only at hSw); go_simp; try (with_reducible rfl))
              try simp only [List.getElem_toArray, List.getElem_cons_succ, List.getElem_cons_zero, Act.put, List.setIfInBounds_toArray, List.set_cons_zero, List.set_cons_succ]
              refine' wpAnyH_take (i := 12) (oi := _) (v := _) rfl (by kernel_rfl) (by kernel_rfl) (by kernel_rfl) (fun _ _ _ h => h) (Or.inl ⟨by kernel_rfl, ?_⟩) (by assumption) ?_
              rotate_left
              · (intro w hSw; (try dsimp only at hSw); go_simp; try (with_reducible rfl))
              try simp only [List.getElem_toArray, List.getElem_cons_succ, List.getElem_cons_zero, Act.put, List.setIfInBounds_toArray, List.set_cons_zero, List.set_cons_succ]
              refine wpAnyH_ready (rs := [13]) (by kernel_rfl) (by simp) ?_
              refine (AllReadyH.cons (o := _) rfl (fun K hK => ?_) AllReadyH.nil)
              go_simp
              go_at_call 12
              with_reducible refine (CA.out V1 BV1.out).mono ?_
              rintro e Y1 ⟨p5, c5, rfl, R5, B5⟩
              have DY1 := hid (btr BV1.out B5.out)
              (try go_wp2_with fail)
              refine hK.out _ _ ?_ (fun hHeld => ?_)
              · (try dsimp only); exact HS.out _ DY1.out
              clear hK K
              try simp only [List.getElem_toArray, List.getElem_cons_succ, List.getElem_cons_zero, Act.put, List.setIfInBounds_toArray, List.set_cons_zero, List.set_cons_succ]
              refine wpAnyH_ready (rs := [14]) (by kernel_rfl) (by simp) ?_
              refine (AllReadyH.cons (o := _) rfl (fun K hK => ?_) AllReadyH.nil)
              go_simp
              go_at_call 14
              with_reducible refine (CC.out Y1 p5 c5 DY1.out R5.out).mono ?_
              rintro e Y2 ⟨rfl, B6⟩
              have DY2 := hid (btr DY1.out B6.out)
              (try go_wp2_with fail)
              refine hK.out _ _ ?_ (fun hHeld => ?_)
              · (try dsimp only); exact HS.out _ DY2.out
              clear hK K
              try simp only [List.getElem_toArray, List.getElem_cons_succ, List.getElem_cons_zero, Act.put, List.setIfInBounds_toArray, List.set_cons_zero, List.set_cons_succ]
              refine' wpAnyH_take (i := 15) (oi := _) (v := _) rfl (by kernel_rfl) (by kernel_rfl) (by kernel_rfl) (fun _ _ _ h => h) (Or.inl ⟨by kernel_rfl, ?_⟩) (by assumption) ?_
              rotate_left
              · (intro w hSw; (try dsimp only at hSw); go_simp; try (with_reducible rfl))
              try simp only [List.getElem_toArray, List.getElem_cons_succ, List.getElem_cons_zero, Act.put, List.setIfInBounds_toArray, List.set_cons_zero, List.set_cons_succ]
              refine' wpAnyH_take (i := 16) (oi := _) (v := _) rfl (by kernel_rfl) (by kernel_rfl) (by kernel_rfl) (fun _ _ _ h => h) (Or.inl ⟨by kernel_rfl, ?_⟩) (by assumption) ?_
              rotate_left
              · (intro w hSw; (try dsimp only at hSw); go_simp; try (with_reducible rfl))
              try simp only [List.getElem_toArray, List.getElem_cons_succ, List.getElem_cons_zero, Act.put, List.setIfInBounds_toArray, List.set_cons_zero, List.set_cons_succ]
              refine' wpAnyH_take (i := 17) (oi := _) (v := _) rfl (by kernel_rfl) (by kernel_rfl) (by kernel_rfl) (fun _ _ _ h => h) (Or.inl ⟨by kernel_rfl, ?_⟩) (by assumption) ?_
              rotate_left
              · (intro w hSw; (try dsimp only at hSw); go_simp; try (with_reducible rfl))
              try simp only [List.getElem_toArray, List.getElem_cons_succ, List.getElem_cons_zero, Act.put, List.setIfInBounds_toArray, List.set_cons_zero, List.set_cons_succ]
              refine' wpAnyH_take (i := 18) (oi := _) (v := _) rfl (by kernel_rfl) (by kernel_rfl) (by kernel_rfl) (fun _ _ _ h => h) (Or.inl ⟨by kernel_rfl, ?_⟩) (by assumption) ?_
              rotate_left
              · (intro w hSw; (try dsimp only at hSw); go_simp; try (with_reducible rfl))
              try simp only [List.getElem_toArray, List.getElem_cons_succ, List.getElem_cons_zero, Act.put, List.setIfInBounds_toArray, List.set_cons_zero, List.set_cons_succ]
              refine' wpAnyH_take (i := 19) (oi := _) (v := _) rfl (by kernel_rfl) (by kernel_rfl) (by kernel_rfl) (fun _ _ _ h => h) (Or.inl ⟨by kernel_rfl, ?_⟩) (by assumption) ?_
              rotate_left
              · (intro w hSw; (try dsimp only at hSw); go_simp; try (with_reducible rfl))
              try simp only [List.getElem_toArray, List.getElem_cons_succ, List.getElem_cons_zero, Act.put, List.setIfInBounds_toArray, List.set_cons_zero, List.set_cons_succ]
              refine' wpAnyH_take (i := 20) (oi := _) (v := _) rfl (by kernel_rfl) (by kernel_rfl) (by kernel_rfl) (fun _ _ _ h => h) (Or.inl ⟨by kernel_rfl, ?_⟩) (by assumption) ?_
              rotate_left
              · (intro w hSw; (try dsimp only at hSw); go_simp; try (with_reducible rfl))
              try simp only [List.getElem_toArray, List.getElem_cons_succ, List.getElem_cons_zero, Act.put, List.setIfInBounds_toArray, List.set_cons_zero, List.set_cons_succ]
              refine' wpAnyH_take (i := 21) (oi := _) (v := _) rfl (by kernel_rfl) (by kernel_rfl) (by kernel_rfl) (fun _ _ _ h => h) (Or.inl ⟨by kernel_rfl, ?_⟩) (by assumption) ?_
              rotate_left
              · (intro w hSw; (try dsimp only at hSw); go_simp; try (with_reducible rfl))
              try simp only [List.getElem_toArray, List.getElem_cons_succ, List.getElem_cons_zero, Act.put, List.setIfInBounds_toArray, List.set_cons_zero, List.set_cons_succ]
              refine wpAnyH_ready (rs := [22]) (by kernel_rfl) (by simp) ?_
              refine (AllReadyH.cons (o := _) rfl (fun K hK => ?_) AllReadyH.nil)
              go_simp
              go_at_call 12
              with_reducible refine (CB.out Y2 DY2.out).mono ?_
              rintro e Y3 ⟨p7, c7, rfl, R7, B7⟩
              have DY3 := hid (btr DY2.out B7.out)
              (try go_wp2_with fail)
              refine hK.out _ _ ?_ (fun hHeld => ?_)
              · (try dsimp only); exact HS.out _ DY3.out
              clear hK K
              try simp only [List.getElem_toArray, List.getElem_cons_succ, List.getElem_cons_zero, Act.put, List.setIfInBounds_toArray, List.set_cons_zero, List.set_cons_succ]
              refine wpAnyH_ready (rs := [23]) (by kernel_rfl) (by simp) ?_
              refine (AllReadyH.cons (o := _) rfl (fun K hK => ?_) AllReadyH.nil)
              go_simp
              go_at_call 14
              with_reducible refine (CE.out Y3 p7 c7 DY3.out R7.out).mono ?_
              rintro e Y4 ⟨rfl, B8⟩
              have DY4 := hid (btr DY3.out B8.out)
              (try go_wp2_with fail)
              refine hK.out _ _ ?_ (fun hHeld => ?_)
              · (try dsimp only); exact HS.out _ DY4.out
              clear hK K
              try simp only [List.getElem_toArray, List.getElem_cons_succ, List.getElem_cons_zero, Act.put, List.setIfInBounds_toArray, List.set_cons_zero, List.set_cons_succ]
              refine' wpAnyH_take (i := 24) (oi := _) (v := _) rfl (by kernel_rfl) (by kernel_rfl) (by kernel_rfl) (fun _ _ _ h => h) (Or.inl ⟨by kernel_rfl, ?_⟩) (by assumption) ?_
              rotate_left
              · (intro w hSw; (try dsimp only at hSw); go_simp; try (with_reducible rfl))
              try simp only [List.getElem_toArray, List.getElem_cons_succ, List.getElem_cons_zero, Act.put, List.setIfInBounds_toArray, List.set_cons_zero, List.set_cons_succ]
              refine' wpAnyH_take (i := 25) (oi := _) (v := _) rfl (by kernel_rfl) (by kernel_rfl) (by kernel_rfl) (fun _ _ _ h => h) (Or.inl ⟨by kernel_rfl, ?_⟩) (by assumption) ?_
              rotate_left
              · (intro w hSw; (try dsimp only at hSw); go_simp; try (with_reducible rfl))
              try simp only [List.getElem_toArray, List.getElem_cons_succ, List.getElem_cons_zero, Act.put, List.setIfInBounds_toArray, List.set_cons_zero, List.set_cons_succ]
              refine wpAnyH_done (by kernel_rfl) ?_ _
              go_wp2
              go_roundw
              case rel => exact ⟨i + 1, b', s9, bl b' 1 d, bl b' 2 d, by omega, by go_num, rfl, J11.out.on DY4.out⟩
              case measure => simp [intOf]; omega
    · have hi5 : i = n := by omega
      subst hi5
      go_wp2
      go_ret
      exact ⟨rfl, btr HB0.out HJ.out.pl.be⟩
end Go.Proofs.Ytojmcfkbekodpaa
