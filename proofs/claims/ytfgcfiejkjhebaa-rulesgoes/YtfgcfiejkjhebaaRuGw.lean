/-
  The law that a book is enough to go on is walked.
-/
import Derived.Test.YtfgcfiejkjhebaaRuPw2
namespace Go.Proofs.Ytfgcfiejkjhebaa
open Go.RowKit Go.Deep Go.Shelf
set_option linter.unusedVariables false
set_option linter.unusedSimpArgs false
set_option maxHeartbeats 16000000
set_option maxRecDepth 100000
/-- what stands behind the loading. -/
def Gx (W1 : World) (B : Nat) (b : Bs) (Q : Nat) (wh i : Int) (U : World) : Prop := ∃ c', Pw W1 B b Q c' U ∧ (0 ≤ wh → wh ≤ i → Sm b c')
theorem goes_walk (cap meet : Int) (q : Option Addr) (lc : Nat) (l : List Cm) (wh : Int) (W : World) (hl : Cmz W q l) (hok : ∀ c ∈ l, CmOk c) (hn : l.length ≤ maxLen) :
    Calls Try.prog 4 #[.agg #[.int .i64 cap, .int .i64 meet], .slice q l.length lc, .int .i64 wh] W fun e w' => e = .returned (.bool true) ∧ Below W.heap.size W w' := by
  have CB := hid (fun U => begun_any cap meet U)
  have HCF := hid (show ∀ b, Fr b cap meet → cfg cap meet = true → Snd b from fun b h k => h.snd k)
  have CN := hid (fun U => (pl_new 1 0 U).mono (R' := fun e w' => ∃ Q c, e = .returned (.tuple #[.pointer (some ⟨Q, 0, none⟩), .int .i64 0]) ∧ Pl U Q c w') (by
    rintro e w' (⟨h, _⟩ | ⟨_, Q, c, h1, h2, h3⟩)
    · exact absurd h (by decide)
    · exact ⟨Q, c, h1, h2⟩))
  obtain ⟨v, hv⟩ : ∃ v, cfg cap meet = v := ⟨_, rfl⟩
  rw [hv] at CB HCF
  clear hv
  obtain ⟨n, hnn⟩ : ∃ n, l.length = n := ⟨_, rfl⟩
  have HN := hid hnn
  rw [hnn] at hn ⊢
  clear hnn
  have hn' : n < 9223372036854775808 := by unfold maxLen at hn; omega
  have HL := hid hl
  have HOK := hid hok
  have HB := hid (ball W (.cells #[.int .i64 cap, .int .i64 meet] 23))
  have hr := World.alloc_heap_new W (.cells #[.int .i64 cap, .int .i64 meet] 23)
  obtain ⟨W1, hW⟩ : ∃ W1, W.alloc (.cells #[.int .i64 cap, .int .i64 meet] 23) = W1 := ⟨_, rfl⟩
  rw [hW] at HB hr
  have HW := hid hW
  have c0 := row_cell hr 0
  have c1 := row_cell hr 1
  simp only [List.getElem?_toArray, List.getElem?_cons_succ, List.getElem?_cons_zero] at c0 c1
  clear hr hW hl hok
  cases v with
  | false =>
    have CB2 := hid ((CB.out W1).mono (R' := fun e w' => e = .returned (.tuple #[.pointer none, .bool true]) ∧ Below W1.heap.size W1 w') (by
      rintro e w' (⟨_, h1, h2⟩ | ⟨h, _⟩)
      · exact ⟨h1, h2⟩
      · cases h))
    go_enter Try.func4, Try.ntmps4
    go_upto_region 1 with fail
    have e0 := HW.out
    rw [e0]
    clear e0
    go_wp2_with (go_at_call 6; with_reducible refine (CB2.out).mono ?_; rintro e w1 ⟨rfl, hb1⟩; have HB1 := hid hb1; clear hb1)
    go_ret
    exact ⟨rfl, btr HB.out HB1.out⟩
  | true =>
    have CB2 := hid ((CB.out W1).mono (R' := fun e w' => ∃ B b, e = .returned (.tuple #[.pointer (some ⟨B, 0, none⟩), .bool true]) ∧ Pl W1 B b w' ∧ Snd b) (by
      rintro e w' (⟨h, _⟩ | ⟨_, B, b, h1, h2, h3⟩)
      · cases h
      · exact ⟨B, b, h1, h2, HCF.out b h3 rfl⟩))
    go_enter Try.func4, Try.ntmps4
    go_upto_region 1 with fail
    have e0 := HW.out
    rw [e0]
    clear e0
    go_wp2_with (first | (go_at_call 6; with_reducible refine (CB2.out).mono ?_; rintro e w1 ⟨B, b0, rfl, h1, hs0⟩; have H1 := hid h1; have HS0 := hid hs0; clear h1 hs0) | (go_at_call 11; with_reducible refine (CN.out _).mono ?_; rintro e w2 ⟨Q, q0, rfl, h2⟩; have H2 := hid (pw_new H1.out h2); clear h2))
    clear c0 c1
    go_loopw [11] (fun iv wr => ∃ (i : Nat) (b c : Bs), i ≤ n ∧ iv = .int .i64 i ∧ Hid (Pw W1 B b Q c wr) ∧ Hid (Snd b) ∧ Hid (0 ≤ wh → wh < (i : Int) → Sm b c)) (fun iv _ => n - (intOf iv).toNat)
    case atStart => exact ⟨0, b0, q0, Nat.zero_le _, rfl, H2, HS0, hid (fun h1 h2 => by omega)⟩
    case round =>
      obtain ⟨i, b, c, hin, rfl, HP, HSN, HSM⟩ := hrel
      by_cases hlt : i < n
      · have hil : i < l.length := by rw [HN.out]; exact hlt
        have hck := HOK.out l[i] (List.getElem_mem hil)
        obtain ⟨x, hx⟩ : ∃ x, l[i] = x := ⟨_, rfl⟩
        have HCZ := hid (fun (U : World) (hU : Below W.heap.size W U) => cmz_cells HL.out hU hil)
        rw [hx] at hck HCZ
        clear hx
        obtain ⟨qb, qo, hq, -⟩ := HCZ.out _ (btr HB.out HP.out.p.be)
        subst hq
        have HCE := hid (fun (U : World) (hU : Below W1.heap.size W1 U) => show (U.cell? ⟨qb, qo + i * 9, none⟩ = some (.int .i64 x.kd) ∧ U.cell? ⟨qb, qo + i * 9 + 1, none⟩ = some (.int .u64 x.id) ∧ U.cell? ⟨qb, qo + i * 9 + 2, none⟩ = some (.int .u64 x.tg) ∧ U.cell? ⟨qb, qo + i * 9 + 3, none⟩ = some (.int .u32 x.mb) ∧ U.cell? ⟨qb, qo + i * 9 + 4, none⟩ = some (.int .i64 x.sd) ∧ U.cell? ⟨qb, qo + i * 9 + 5, none⟩ = some (.int .i64 x.ty) ∧ U.cell? ⟨qb, qo + i * 9 + 6, none⟩ = some (.int .i64 x.pr) ∧ U.cell? ⟨qb, qo + i * 9 + 7, none⟩ = some (.int .u64 x.qt) ∧ U.cell? ⟨qb, qo + i * 9 + 8, none⟩ = some (.int .u64 x.pk)) from by
          obtain ⟨b', o', e, h⟩ := HCZ.out U (btr HB.out hU)
          injection e with e
          injection e with e1 e2
          subst e1 e2
          exact h)
        have HCK := hid hck
        have i0' : (0 : Int) ≤ (i : Int) := by omega
        have i1 : (i : Int) < (n : Int) := by omega
        clear hck HCZ
        go_upto_region 10 with fail
        refine Sr.reg_any2 [38, 39, 40, 41, 42, 43, 44, 45, 46, 47] (fun t U => t 47 = .bool false ∧ Hid (Gx W1 B b Q wh i U)) ?_ ?_
        · by_cases hw : (i : Int) = wh
          · have hw' : ((i : Int) == wh) = true := by simpa using hw
            have CK := hid (book_any B b wr HP.out.p.bm HP.out.p.gb.vb.len)
            have CLD := hid (fun (x1 x2 : Option Addr) (y1 y2 : Nat) (U : World) (hU : Below wr.heap.size wr U) (h1 : U.ownsRow wr.heap.size 42 7 (.slice x1 b.l1.length y1) b.l1.length (ors (osl b.l1))) (h2 : U.ownsRow wr.heap.size 42 7 (.slice x2 b.l2.length y2) b.l2.length (ors (osl b.l2))) => pw_load (V := U) (HP.out.on hU) HSN.out h1 h2)
            unfold bkv at CK CLD
            clear hw
            go_wp2_with (first
              | (go_at_call 8; with_reducible refine (CK.out).mono ?_; rintro e w3 ⟨v1, v2, rfl, ho1, ho2, hb3⟩; obtain ⟨x1, y1, rfl⟩ := own_form ho1; obtain ⟨x2, y2, rfl⟩ := own_form ho2; have HLD := hid (CLD.out x1 x2 y1 y2 w3 hb3 ho1 ho2); clear ho1 ho2 hb3)
              | (go_at_call 12; with_reducible refine (HLD.out).mono ?_; rintro e w4 ⟨rfl, c', h4, hs4⟩; have H4 := hid h4; have HS4 := hid hs4; clear h4 hs4))
            have HG := hid (show Gx W1 B b Q wh i w4 from ⟨c', H4.out, fun _ _ => HS4.out⟩)
            first | exact ⟨by kernel_rfl, by rfl, HG⟩ | exact ⟨by kernel_rfl, HG⟩ | exact HG
          · have hw' : ((i : Int) == wh) = false := by simpa using hw
            have HNE := hid hw
            clear hw
            go_wp2
            have HG := hid (show Gx W1 B b Q wh i wr from ⟨c, HP.out, fun h1 h2 => HSM.out h1 (by have := HNE.out; omega)⟩)
            first | exact ⟨by kernel_rfl, by rfl, HG⟩ | exact ⟨by kernel_rfl, HG⟩ | exact HG
        rintro t U0 ⟨et, HU0⟩
        simp only [Sr.puts, List.foldl_cons, List.foldl_nil, Act.put, List.setIfInBounds_toArray, List.set_cons_zero, List.set_cons_succ]
        rw [et]
        clear et HP HSM c
        obtain ⟨c, hp0, hsm0⟩ := HU0.out
        have HP := hid hp0
        have HSM := hid hsm0
        clear HU0 hp0 hsm0
        have CD := hid (pw_do x HP.out HCK.out)
        unfold cmr at CD
        obtain ⟨a0, a1, a2, a3, a4, a5, a6, a7, a8⟩ := HCE.out U0 HP.out.p.be
        go_upto_region 13 with (go_at_call 7; with_reducible refine (CD.out).mono ?_; rintro e w5 ⟨b', p5, q5, es, rfl, h5, ho5, hd5, _⟩; have H5 := hid h5; have HO5 := hid ho5; have HD5 := hid hd5; have HS5 := hid (hd5.snd HP.out.p.gb HSN.out HCK.out); clear h5 ho5 hd5)
        clear a0 a1 a2 a3 a4 a5 a6 a7 a8 CD
        obtain ⟨m, hm⟩ : ∃ m, es.length = m := ⟨_, rfl⟩
        have HM := hid hm
        rw [hm]
        clear hm
        by_cases hw : 0 ≤ wh ∧ wh ≤ (i : Int)
        · obtain ⟨w0, wi⟩ := hw
          have HSB := hid (HSM.out w0 wi)
          have CQ := hid ((pw_do x H5.out.symm HCK.out).mono (R' := fun e w' => ∃ c' p q, e = .returned (.slice p m q) ∧ Pw W1 B b' Q c' w' ∧ Sm b' c' ∧ w'.ownsRow 0 50 13 (.slice p5 m q5) m (evs es) ∧ w'.ownsRow 0 50 13 (.slice p m q) m (evs es)) (by
            rintro e w' ⟨c', p, q, es2, h1, h2, h3, h4, h6⟩
            obtain ⟨e1, e2⟩ := did_same HSB.out HD5.out h4
            subst e1
            have ho := HO5.out
            rw [HM.out] at h1 h3 ho
            exact ⟨c', p, q, h1, h2.symm, e2, ev_kept ho H5.out.q.bm h6, h3⟩))
          unfold cmr at CQ
          have FEV := hid (fun (p6 : Option Addr) (q6 : Nat) (U : World) (ho6 : U.ownsRow 0 50 13 (.slice p5 m q5) m (evs es)) (hp6 : U.ownsRow 0 50 13 (.slice p6 m q6) m (evs es)) => show Calls Try.prog 13 #[.slice p5 m q5, .slice p6 m q6] U fun e w' => e = .returned (.bool true) ∧ Below U.heap.size U w' from by
            have hlm : es.length ≤ maxLen := by
              by_cases h0 : 0 < es.length
              · have ho := ho6
                rw [← HM.out] at ho
                obtain ⟨g, cc, _, hmx, _⟩ := ev_cells ho h0
                exact hmx
              · have h0' : es.length = 0 := by omega
                rw [h0']
                exact Nat.zero_le _
            have := events_any p5 p6 q5 q6 es U (evz_of (base := 0) (c := q5) (by rw [HM.out]; exact ho6)) (evz_of (base := 0) (c := q6) (by rw [HM.out]; exact hp6)) hlm
            rw [HM.out] at this
            exact this)
          have FBS := hid (fun (c' : Bs) (hs : Sm b' c') (v1 v2 u1 u2 : Value) (base base' : Nat) (U : World) (k1 : U.ownsRow base 42 7 v1 b'.l1.length (ors (osl b'.l1))) (k2 : U.ownsRow base 42 7 v2 b'.l2.length (ors (osl b'.l2))) (ho1 : U.ownsRow base' 42 7 u1 c'.l1.length (ors (osl c'.l1))) (ho2 : U.ownsRow base' 42 7 u2 c'.l2.length (ors (osl c'.l2))) => show Calls Try.prog 14 #[.agg (bkv b' v1 v2), .agg (bkv c' u1 u2)] U fun e w' => e = .returned (.bool true) ∧ Below U.heap.size U w' from by
            rw [bkv_sm hs]
            have e1 : (osl b'.l1).length = b'.l1.length := by simp [osl]
            have e2 : (osl b'.l2).length = b'.l2.length := by simp [osl]
            have f1 : osl c'.l1 = osl b'.l1 := hs.o1
            have f2 : osl c'.l2 = osl b'.l2 := hs.o2
            have g1 : c'.l1.length = b'.l1.length := by rw [← e1, ← f1]; simp [osl]
            have g2 : c'.l2.length = b'.l2.length := by rw [← e2, ← f2]; simp [osl]
            rw [f1, g1] at ho1
            rw [f2, g2] at ho2
            exact books_same b' (osl b'.l1) (osl b'.l2) v1 v2 u1 u2 U (by rw [e1]; exact own_base k1 (Nat.zero_le _)) (by rw [e2]; exact own_base k2 (Nat.zero_le _)) (by rw [e1]; exact own_base ho1 (Nat.zero_le _)) (by rw [e2]; exact own_base ho2 (Nat.zero_le _)))
          unfold bkv at FBS
          obtain ⟨a0, a1, a2, a3, a4, a5, a6, a7, a8⟩ := HCE.out w5 H5.out.p.be
          go_upto_region 14 with fail
          go_wp2_with (first
            | (go_at_call 7; with_reducible refine (CQ.out).mono ?_; rintro e w6 ⟨c', p6, q6, rfl, h6, hs6, ho6, hp6⟩; have H6 := hid h6; have HS6 := hid hs6; have HEV := hid (FEV.out p6 q6 w6 ho6 hp6); clear h6 hs6 ho6 hp6)
            | (go_at_call 13; with_reducible refine (HEV.out).mono ?_; rintro e w7 ⟨rfl, hb7⟩; have H7 := hid (H6.out.on hb7); have CK1 := hid (book_any B b' w7 (H6.out.on hb7).p.bm H5.out.p.gb.vb.len); unfold bkv at CK1; clear hb7)
            | (go_at_call 8; with_reducible refine (CK1.out).mono ?_; rintro e w8 ⟨v1, v2, rfl, ho1, ho2, hb8⟩; have H8 := hid (H7.out.on hb8); have HO1 := hid ho1; have HO2 := hid ho2; have CK2 := hid (book_any Q c' w8 (H7.out.on hb8).q.bm (H7.out.on hb8).q.gb.vb.len); unfold bkv at CK2; clear ho1 ho2 hb8)
            | (go_at_call 8; with_reducible refine (CK2.out).mono ?_; rintro e w9 ⟨u1, u2, rfl, ho1, ho2, hb9⟩; have H9 := hid (H8.out.on hb9); have CBS := hid (FBS.out c' HS6.out v1 v2 u1 u2 _ _ w9 (own_on HO1.out hb9) (own_on HO2.out hb9) ho1 ho2); clear ho1 ho2 hb9)
            | (go_at_call 14; with_reducible refine (CBS.out).mono ?_; rintro e w10 ⟨rfl, hb10⟩; have H10 := hid (H9.out.on hb10); clear hb10))
          go_roundw
          case rel => exact ⟨i + 1, b', c', by omega, by go_num, H10, HS5, hid (fun _ _ => HS6.out)⟩
          case measure => first | (simp [intOf]; done) | (simp [intOf]; omega)
        · have HNW := hid hw
          have HEND := hid (show 0 ≤ wh → wh < ((i + 1 : Nat) : Int) → Sm b' c from fun h1 h2 => absurd ⟨h1, by omega⟩ HNW.out)
          by_cases w0 : 0 ≤ wh
          · have wi : ¬ wh ≤ (i : Int) := fun h => hw ⟨w0, h⟩
            clear hw
            go_wp2
            go_roundw
            case rel => exact ⟨i + 1, b', c, by omega, by go_num, H5, HS5, HEND⟩
            case measure => first | (simp [intOf]; done) | (simp [intOf]; omega)
          · clear hw
            go_wp2
            go_roundw
            case rel => exact ⟨i + 1, b', c, by omega, by go_num, H5, HS5, HEND⟩
            case measure => first | (simp [intOf]; done) | (simp [intOf]; omega)
      · obtain rfl : i = n := by omega
        go_wp2
        go_ret
        exact ⟨rfl, btr HB.out HP.out.p.be⟩
end Go.Proofs.Ytfgcfiejkjhebaa
