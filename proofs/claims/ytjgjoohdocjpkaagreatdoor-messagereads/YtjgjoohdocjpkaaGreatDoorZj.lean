/-
  The texts of this claim, part 10.
-/
import Derived.Test.YtjgjoohdocjpkaaGreatDoorZi
namespace Go.Proofs.YtjgjoohdocjpkaaGreatDoor
open Go.RowKit Go.Deep Go.Lib Go.Shelf Go.Sort
set_option linter.unusedVariables false
/-- the document's Read. -/
theorem read_any (l : List UInt8) (q : Option Addr) (cap : Nat) (w : World) (hl : l.length < 4611686018427387904) (hcap : l.length ≤ cap) (hcm : cap < 9223372036854775808) (hS : Sb w q l) :
    Calls Tryz.prog 39 #[.slice q l.length cap] w fun e w' => ReadP l w e w' := by
  by_cases h : (headR l).2.2 = 0
  · obtain ⟨⟨f, s⟩, p, e, hx⟩ : ∃ z p e, headR l = (z, p, e) := ⟨_, _, _, rfl⟩
    rw [hx] at h
    simp only at h
    subst h
    obtain ⟨rfl, _, h1, _, h2, _⟩ := headR_ok hx
    obtain ⟨b, o, rfl, _⟩ := hS 0 (by omega)
    exact read_ok l b o cap w hl hcap hcm hS f s hx
  · exact read_bad l q cap w hl hcap hcm hS h
set_option maxHeartbeats 2000000 in
set_option maxRecDepth 100000 in
/-- the document's Decode. -/
theorem rdecode_any (l : List UInt8) (q : Option Addr) (cap : Nat) (w : World) (hl : l.length < 4611686018427387904) (hcap : l.length ≤ cap) (hcm : cap < 9223372036854775808) (hS : Sb w q l) :
    Calls Tryz.prog 16 #[.slice q l.length cap] w fun e w' => ∃ v, e = .returned (.tuple #[.string ⟨(decR l).1.toArray⟩, v, .int .i64 ((decR l).2.2.1 : Nat), .int .i64 (decR l).2.2.2]) ∧ OwnT w.heap.size w w' v (decR l).2.1 := by
  have RD := hid (read_any l q cap w hl hcap hcm hS)
  unfold ReadP at RD
  obtain ⟨kd, tg, pl, why, hd⟩ : ∃ a b c d, decR l = (a, b, c, d) := ⟨_, _, _, _, rfl⟩
  rw [hd] at RD ⊢
  simp only at RD ⊢
  obtain ⟨WH, hWH⟩ : ∃ x, decide ((outE l).2.2 = 0) = x := ⟨_, rfl⟩
  obtain ⟨SZ, hSZ⟩ : ∃ x, (if (outE l).2.2 = 0 then (outE l).1.2 + 7 else 0 : Nat) = x := ⟨_, rfl⟩
  rw [hWH, hSZ] at RD
  clear hd hWH hSZ hS
  unfold ansV at RD
  go_enter Tryz.func16, Tryz.ntmps16
  go_wp2_with (first | (go_at_call 39; refine RD.out.mono ?_; rintro e w1 ⟨v, rfl, hO⟩; obtain ⟨qv, cv, rfl, _, _, _⟩ := hO.form; have HO := hid (hO.on (ball w1 (.cells #[.string ⟨kd.toArray⟩, .slice qv tg.length cv, .int .i64 pl, .int .i64 why, .bool WH, .int .i64 SZ] 81))); clear hO; obtain ⟨x0, x1, x2, x3, x4, x5⟩ := cells67 (show (w1.alloc (.cells #[.string ⟨kd.toArray⟩, .slice qv tg.length cv, .int .i64 pl, .int .i64 why, .bool WH, .int .i64 SZ] 81)).heap[w1.heap.size]? = some (.cells #[.string ⟨kd.toArray⟩, .slice qv tg.length cv, .int .i64 pl, .int .i64 why, .bool WH, .int .i64 SZ] 81 (0, 0)) from heap_alloc_new _ _)))
  go_quiet (fail)
  go_wp2
  refine bodyPost_ret (res4 Tryz.f16 2 3 4 5 Tryz.results16 _ _ _ _ _ _ (by rfl) (by rfl) (by rfl) (by rfl)) rfl ?_
  exact ⟨_, rfl, HO.out.on ⟨rfl, rfl, rfl, Nat.le_refl _, fun _ _ => rfl⟩⟩
end Go.Proofs.YtjgjoohdocjpkaaGreatDoor
namespace Go.Proofs.YtjgjoohdocjpkaaGreatDoor.Msg
open Go.RowKit Go.Maps Go.Deep Go.Lib
set_option linter.unusedVariables false
set_option linter.unusedSimpArgs false
theorem conv_drew {w : World} {q : Option Addr} {l : List UInt8} (h : Sb w q l) (c n : Nat) (hn : l.length = n) : ∀ m, (convert 22 9 (.slice q n c)).run Tryz.prog (w.drewN m) = .ok (.string ⟨l.toArray⟩) (w.drewN m) := fun m => by
  subst hn
  exact conv_any (w := w.drewN m) (fun i hi => h i hi) c
theorem agnF_step (f : Int → Int) (k : Int) (L : List Int) (j : Nat) (h : j < L.length) : agnF f k (L.take (j + 1)) = (agnF f k (L.take j)).set L[j] (f L[j]) := by
  unfold agnF
  rw [List.take_succ_eq_append_getElem h, List.foldl_append]
  rfl
/-- a list of fields is no input. -/
theorem no_inp {w : World} {A p : Nat} {y : Inp} {a b c : Int} (h : w.heap[A]? = some (.cells y.v 29 (0, 0))) (h0 : w.cell? ⟨A, p, none⟩ = some (.int .i64 a)) (h1 : w.cell? ⟨A, p + 1, none⟩ = some (.int .u64 b)) (h2 : w.cell? ⟨A, p + 2, none⟩ = some (.int .i64 c)) : False := by
  rw [row_cell h] at h0 h1 h2
  unfold Inp.v iV at h0 h1 h2
  have hp : p < 11 := by
    rcases Nat.lt_or_ge p 11 with h' | h'
    · exact h'
    · rw [Array.getElem?_eq_none (by simpa using h')] at h0; cases h0
  obtain rfl | rfl | rfl | rfl | rfl | rfl | rfl | rfl | rfl | rfl | rfl : p = 0 ∨ p = 1 ∨ p = 2 ∨ p = 3 ∨ p = 4 ∨ p = 5 ∨ p = 6 ∨ p = 7 ∨ p = 8 ∨ p = 9 ∨ p = 10 := by omega
  all_goals simp at h0 h1 h2
structure RlR (f : Int → Int) (k : Int) (q : Option Addr) (L : List Int) (j : Nat) (w4 wr : World) : Prop where
  a : wr.heap[w4.heap.size]? = some (.cells (agnF f k (L.take j)).v 29 (0, 0))
  s : Sf wr q k L
  bel : Below w4.heap.size w4 wr
theorem sf_st {w w' : World} {A : Nat} {cs : Array Value} {q : Option Addr} {k : Int} {L : List Int} (h : Sf w q k L) (hst : St w A 29 cs w') (hq : ∀ b o, q = some ⟨b, o, none⟩ → 0 < L.length → b ≠ A) : Sf w' q k L := by
  intro i hi
  obtain ⟨b, o, e, h0, h1, h2, h3⟩ := h i hi
  have hb := hq b o e (by omega)
  exact ⟨b, o, e, hst.cell hb h0, hst.cell hb h1, hst.cell hb h2, hst.cell hb h3⟩
theorem rlR_one {l : List UInt8} {kd : List UInt8} {tg : List (Int × List UInt8)} {n : Nat} {k : Int} (hd : decR l = (kd, tg, n, 0)) (hk : inK kd = some k) : rlR l = if (rlI k tg).e = 0 ∧ lnB (rlI k tg) = l.take n then (rlI k tg, n, 0) else (zeroI, 0, 40) := by
  unfold rlR
  rw [hd]
  simp only [ne_eq, not_true_eq_false, if_false, hk]
theorem rlR_none {l : List UInt8} {kd : List UInt8} {tg : List (Int × List UInt8)} {n : Nat} (hd : decR l = (kd, tg, n, 0)) (hk : inK kd = none) : rlR l = (zeroI, 0, 41) := by
  unfold rlR
  rw [hd]
  simp only [ne_eq, not_true_eq_false, if_false, hk]
theorem rlR_bad {l : List UInt8} {kd : List UInt8} {tg : List (Int × List UInt8)} {n : Nat} {e : Int} (hd : decR l = (kd, tg, n, e)) (he : e ≠ 0) : rlR l = (zeroI, n, e) := by
  unfold rlR
  rw [hd]
  simp only [ne_eq]
  rw [if_pos he]

set_option maxHeartbeats 16000000 in
set_option maxRecDepth 100000 in
theorem rreadI_any (l : List UInt8) (q : Option Addr) (cap : Nat) (w : World) (hl : l.length < 4611686018427387904) (hcap : l.length ≤ cap) (hcm : cap < 9223372036854775808) (hS : Sb w q l) :
    Calls Tryz.prog 6 #[.slice q l.length cap] w fun e w' => e = .returned (.tuple #[.agg (rlR l).1.v, .int .i64 ((rlR l).2.1 : Nat), .int .i64 (rlR l).2.2]) ∧ Below w.heap.size w w' := by
  have HS := hid hS
  have HI := hid (heap_alloc_new w (.cells zeroI.v 29))
  have HB0 := hid (ball w (.cells zeroI.v 29))
  have DE := hid (fun w hS => rdecode_any l q cap w hl hcap hcm hS)
  obtain ⟨kd, tg, n, er, hd⟩ : ∃ a b c d, decR l = (a, b, c, d) := ⟨_, _, _, _, rfl⟩
  have HD := hid hd
  rw [hd] at DE
  simp only at DE
  have HZ := hid (show zeroI.v = #[.int .i64 0, .int .i64 0, .int .u64 0, .int .u64 0, .int .u32 0, .int .i64 0, .int .i64 0, .int .i64 0, .int .u64 0, .int .u64 0, .int .i64 0] from rfl)
  rw [HZ.out] at HI HB0
  clear hS
  by_cases he : er = 0
  · subst he
    obtain ⟨n1, n2, n3, n4⟩ := decR_back hd
    obtain ⟨s1, s2, s3⟩ := line_small n3
    have HS3 := hid s3
    clear hd n3 n4 s3
    have LE := hid (fun w => letters_any w)
    have IX := hid (fun (k : Int) (h1 : 1 ≤ k) (h4 : k ≤ 4) w => letter_at k h1 h4 w)
    have NU := hid (fun q cap t w hT => rnumber_any tg q cap t w (by omega) (fun x hx => by have := HS3.out x hx; omega) hT)
    obtain ⟨bq, oq, rfl, _⟩ := HS.out 0 (by omega)
    go_enter Tryz.func6, Tryz.ntmps6
    go_wp2_with (first | (go_at_call 16; refine (DE.out _ (HS.out.on HB0.out)).mono ?_; rintro e w2 ⟨v, rfl, hO⟩; have HO := hid hO; clear hO; refine Hid.out ?_))
    have HI2 := hid (row_on HI.out HO.out.2.1)
    have HB2 := hid (btr HB0.out HO.out.2.1)
    obtain ⟨ql, cl, rfl, hTl, hcl, hml⟩ := HO.out.form
    have HT := hid hTl
    clear hTl HO DE HI HB0
    refine hid ?_
    go_wp2_with fail
    go_loopw [9] (fun kv wr => ∃ k : Nat, kv = .int .i64 k ∧ 1 ≤ k ∧ k ≤ 5 ∧ Hid (Below w2.heap.size w2 wr) ∧ Hid (∀ i : Int, 1 ≤ i → i < k → lineK i ≠ kd)) (fun kv _ => 5 - (RowKit.intOf kv).toNat)
    case atStart => exact ⟨1, rfl, by omega, by omega, hid (Below.refl _ _), hid (fun i h1 h2 => by omega)⟩
    case round =>
      obtain ⟨k, rfl, k1, k5, HBr, HN⟩ := hrel
      have HIr := hid (row_on HI2.out HBr.out)
      have HBW := hid (btr HB2.out HBr.out)
      by_cases hk5 : k = 5
      · subst hk5
        have hno : inK kd = none := by
          have a1 := HN.out 1 (by omega) (by omega)
          have a2 := HN.out 2 (by omega) (by omega)
          have a3 := HN.out 3 (by omega) (by omega)
          have a4 := HN.out 4 (by omega) (by omega)
          unfold inK
          rw [if_neg (fun e => a1 (by rw [e]; rfl)), if_neg (fun e => a2 (by rw [e]; rfl)), if_neg (fun e => a3 (by rw [e]; rfl)), if_neg (fun e => a4 (by rw [e]; rfl))]
        have HR := hid (rlR_none HD.out hno)
        have HI3 := HIr.out
        clear hno HN
        go_wp2_with (first | (refine wpList_st (by rfl) 29 (.tmp 2) (.tmp 85) (by rfl) w.heap.size #[.int .i64 0, .int .i64 0, .int .u64 0, .int .u64 0, .int .u32 0, .int .i64 0, .int .i64 0, .int .i64 0, .int .u64 0, .int .u64 0, .int .i64 0] (by rfl) (by rfl) 29 #[.int .i64 0, .int .i64 0, .int .u64 0, .int .u64 0, .int .u32 0, .int .i64 0, .int .i64 0, .int .i64 0, .int .u64 0, .int .u64 0, .int .i64 0] HI3 info27 rfl (by simp [Value.oneCell']) ?_; intro w5 hst; have HST := hid hst; clear hst; refine Hid.out ?_))
        refine hid ?_
        go_wp2
        exact bodyPost_ret (res27t Tryz.f6 2 3 4 Tryz.results6 _ _ w.heap.size #[.int .i64 0, .int .i64 0, .int .u64 0, .int .u64 0, .int .u32 0, .int .i64 0, .int .i64 0, .int .i64 0, .int .u64 0, .int .u64 0, .int .i64 0] _ _ (by rfl) (by rfl) (by rfl) HST.out.row info27) rfl ⟨by rw [HR.out]; rfl, HST.out.bel _ _ HBW.out (Nat.le_refl _)⟩
      · have hk4 : k ≤ 4 := by omega
        have kle : (k : Int) ≤ 4 := by omega
        have ix := fun w => IX.out (k : Int) (by omega) (by omega) w
        obtain ⟨KL, hKL⟩ : ∃ x, lineK (k : Int) = x := ⟨_, rfl⟩
        rw [hKL] at ix
        by_cases heq : KL = kd
        · have hin : inK kd = some (k : Int) := by rw [← heq, ← hKL]; exact inK_line (by omega) (by omega)
          have hq : (KL == kd) = true := by simpa using heq
          have BA := hid (fun w => bare_any (k : Int) w)
          have FA := hid (fun w => fields_any (k : Int) (by omega) (by omega) w)
          unfold FldP at FA
          have HIT := hid (fun t ht => in_tag (k := (k : Int)) (t := t) (by omega) (by omega) ht)
          have hlen := tags_len (k : Int)
          have HR1 := hid (rlR_one HD.out hin)
          have HOK := hid (rlI_ok (k : Int) tg)
          have RL := hid (fun w => rline_any (rlI (k : Int) tg) HOK.out.1 HOK.out.2 w)
          have hYd : rlI (k : Int) tg = agnF (nmF tg) (k : Int) (tagsL (k : Int)) := rfl
          rw [hYd] at HR1 RL
          obtain ⟨L, hL⟩ : ∃ l, tagsL (k : Int) = l := ⟨_, rfl⟩
          rw [hL] at FA HIT hlen HR1 RL
          obtain ⟨f, hf⟩ : ∃ f, nmF tg = f := ⟨_, rfl⟩
          have HF := hid (show ∀ t, ((numOf tg t).1 : Int) = f t from fun t => by rw [← hf]; rfl)
          rw [hf] at HR1 RL
          clear hin heq hKL HN hYd hL hf HOK
          go_wp2_with (first | (go_at_call 17; refine (LE.out _).mono ?_; rintro e w3 ⟨rfl, hb⟩; have HB3 := hid (btr HBr.out hb); clear hb; refine Hid.out ?_))
          clear HIr HBW HBr
          refine hid ?_
          go_wp2_with (first | (go_at_call 18; refine (BA.out _).mono ?_; rintro e w4 ⟨rfl, hb⟩; have HB4 := hid (btr HB3.out hb); clear hb; refine Hid.out ?_))
          clear HB3 ix hq
          have HA5 := hid (heap_alloc_new w4 (.cells (bareI (k : Int)).v 29))
          have HB5 := hid (ball w4 (.cells (bareI (k : Int)).v 29))
          refine hid ?_
          unfold Inp.v iV at HA5 HB5 ⊢
          go_wp2_with (first | (go_at_call 19; refine (FA.out _).mono ?_; rintro e w6 ⟨q6, c6, rfl, hS6, hb⟩; have PK := hid (show RlR f (k : Int) q6 L 0 w4 w6 from ⟨by simpa [agnF, Inp.v, iV] using row_on HA5.out hb, hS6, btr HB5.out hb⟩); clear hS6 hb; refine Hid.out ?_))
          have HQA := hid (show ∀ b o, q6 = some ⟨b, o, none⟩ → 0 < L.length → b ≠ w4.heap.size from fun b o e h0 hb => by
            obtain ⟨b', o', e', c0, c1, c2, _⟩ := PK.out.s 0 h0
            rw [e'] at e
            simp at e
            obtain ⟨rfl, rfl⟩ := e
            subst hb
            exact no_inp PK.out.a c0 c1 c2)
          have HT4 := hid (HT.out.on HB4.out)
          have HS4 := hid ((HS.out.on HB2.out).on HB4.out)
          have HI4 := hid (row_on HI2.out HB4.out)
          have HBW4 := hid (btr HB2.out HB4.out)
          clear HA5 HB5 FA BA LE IX HT HB4 HI2 HB2
          refine hid ?_
          go_wp2
          go_loopw [12] (fun iv wr => ∃ j : Nat, j ≤ L.length ∧ iv = .int .i64 j ∧ RlR f (k : Int) q6 L j w4 wr) (fun iv _ => L.length - (RowKit.intOf iv).toNat)
          case atStart => exact ⟨0, Nat.zero_le _, rfl, PK.out⟩
          case round =>
            obtain ⟨j, hj, rfl, hpk⟩ := hrel
            have PJ := hid hpk
            clear hpk PK
            by_cases hjl : j < L.length
            · have hjl' : (j : Int) < (L.length : Int) := by omega
              have hj0 : (0 : Int) ≤ (j : Int) := by omega
              obtain ⟨qb, qo, rfl, f0, _, _, _⟩ := PJ.out.s j hjl
              have HAG := hid (agnF_step f (k : Int) L j hjl)
              have HTG := hid (HIT.out L[j] (List.getElem_mem hjl))
              obtain ⟨t, ht⟩ : ∃ t, L[j] = t := ⟨_, rfl⟩
              rw [ht] at f0 HAG HTG
              have N1 := hid (NU.out ql cl t wr (HT4.out.on PJ.out.bel))
              rw [HF.out t] at N1
              obtain ⟨NE, hNE⟩ : ∃ y, (numOf tg t).2 = y := ⟨_, rfl⟩
              rw [hNE] at N1
              have WI := hid (fun w => with_any (agnF f (k : Int) (L.take j)) t (f t) HTG.out w)
              unfold Inp.v iV at WI
              obtain ⟨d0, d1, d2, d3, d4, d5, d6, d7, d8, d9, d10⟩ := cells_I PJ.out.a
              clear ht hNE
              go_wp2_with (first | (go_at_call 20; refine N1.out.mono ?_; rintro e wn ⟨rfl, rfl⟩; refine Hid.out ?_))
              refine hid ?_
              go_wp2
              go_region_with (first | (go_at_call 21; refine (WI.out wn.drew).mono ?_; rintro e w7 ⟨rfl, hb⟩; (have HR7 := hid (show w7.heap[w4.heap.size]? = some (.cells (agnF f (k : Int) (L.take j)).v 29 (0, 0)) from row_on (w := wn.drew) PJ.out.a hb)); (obtain ⟨e0, e1, e2, e3, e4, e5, e6, e7, e8, e9, e10⟩ := cells_I HR7.out); (obtain ⟨z0, z1, z2, z3, z4, z5, z6, z7, z8, z9, z10⟩ := frz_I HR7.out); have HB7 := hid hb; clear hb))
              all_goals
                obtain ⟨W3, hW3, hST⟩ := st11 w7 w4.heap.size _ ((agnF f (k : Int) (L.take j)).set t (f t)) HR7.out
                rw [← HAG.out] at hST
                have PN := hid (show RlR f (k : Int) (some ⟨qb, qo, none⟩) L (j + 1) w4 W3 from ⟨hST.row, sf_st (Sf.on (w := wn.drew) PJ.out.s HB7.out) hST (fun b o e h => HQA.out b o e h), hST.bel _ _ (btr (show Below w4.heap.size w4 wn.drew from PJ.out.bel.drew) HB7.out) (Nat.le_refl _)⟩)
                clear hST z0 z1 z2 z3 z4 z5 z6 z7 z8 z9 z10 e0 e1 e2 e3 e4 e5 e6 e7 e8 e9 e10 d0 d1 d2 d3 d4 d5 d6 d7 d8 d9 d10 HR7
                rw [hW3]
                clear hW3
                go_wp2
                go_roundw
                case rel => exact ⟨j + 1, by omega, by go_num, PN.out⟩
                case measure => simp [RowKit.intOf]; omega
            · have hje : j = L.length := by omega
              subst hje
              have hfa := PJ.out.a
              rw [List.take_length (l := L)] at hfa
              have HFA := hid hfa
              have HBj := hid PJ.out.bel
              clear hfa PJ
              obtain ⟨Y, hY⟩ : ∃ y, agnF f (k : Int) L = y := ⟨_, rfl⟩
              rw [hY] at HFA HR1 RL
              obtain ⟨OUT, hO⟩ : ∃ y, lnB Y = y := ⟨_, rfl⟩
              rw [hO] at HR1 RL
              obtain ⟨E, hE⟩ : ∃ y, Y.e = y := ⟨_, rfl⟩
              rw [hE] at HR1 RL
              clear hY hO hE HIT HF NU
              unfold Inp.v iV at RL HFA
              obtain ⟨d0, d1, d2, d3, d4, d5, d6, d7, d8, d9, d10⟩ := cells_I HFA.out
              go_wp2_with (first | (go_at_call 22; refine (RL.out _).mono ?_; rintro e w8 ⟨v8, rfl, hA8⟩; have HA8 := hid hA8; clear hA8; refine Hid.out ?_))
              obtain ⟨q8, c8, hv8, hS8, _, hb8⟩ := HA8.out
              subst hv8
              have HF8 := hid (row_on HFA.out hb8)
              have HI8 := hid (row_on (row_on HI4.out HBj.out) hb8)
              have HB8 := hid (btr (btr HBW4.out HBj.out) hb8)
              have HS8 := hid ((HS4.out.on HBj.out).on hb8)
              have htl : (l.take n).length = n := by simp; omega
              have cv1 := conv_drew hS8 c8 _ rfl
              have cv2 := conv_drew (HS8.out.take n) cap n htl
              have g3 : (0 : Int) ≤ (n : Int) := by omega
              have g4 : (n : Int) ≤ (cap : Int) := by omega
              clear d0 d1 d2 d3 d4 d5 d6 d7 d8 d9 d10 HA8 hS8 hb8 HFA RL HI4 HBj HBW4 HS4 htl
              have HI9 := HI8.out
              refine hid ?_
              by_cases hE0 : E = 0
              · subst hE0
                by_cases hq : OUT = l.take n
                · have HR := hid (HR1.out.trans (if_pos ⟨rfl, hq⟩))
                  have hqt : (OUT == l.take n) = true := by simpa using hq
                  have hqn : (OUT != l.take n) = false := by simpa using hq
                  clear HR1 hq
                  go_wp2
                  go_quiet (fail)
                  have HF9 := HF8.out
                  go_wp2_with (first | (refine wpList_load_row (by rfl) 29 (.tmp 10) (by rfl) w4.heap.size (by rfl) 29 #[.int .i64 Y.ki, .int .i64 Y.co, .int .u64 Y.id, .int .u64 Y.tg, .int .u32 Y.me, .int .i64 Y.si, .int .i64 Y.ty, .int .i64 Y.pr, .int .u64 Y.qt, .int .u64 Y.pe, .int .i64 Y.en] (0, 0) _ HF9 Tryz.underlying29 rfl info27 ?_) | (refine wpList_st (by rfl) 29 (.tmp 2) (.tmp 83) (by rfl) w.heap.size #[.int .i64 Y.ki, .int .i64 Y.co, .int .u64 Y.id, .int .u64 Y.tg, .int .u32 Y.me, .int .i64 Y.si, .int .i64 Y.ty, .int .i64 Y.pr, .int .u64 Y.qt, .int .u64 Y.pe, .int .i64 Y.en] (by rfl) (by rfl) 29 #[.int .i64 0, .int .i64 0, .int .u64 0, .int .u64 0, .int .u32 0, .int .i64 0, .int .i64 0, .int .i64 0, .int .u64 0, .int .u64 0, .int .i64 0] HI9 info27 rfl (by simp [Value.oneCell']) ?_; intro w9 hst; have HST := hid hst; clear hst; refine Hid.out ?_))
                  refine hid ?_
                  go_wp2
                  exact bodyPost_ret (res27t Tryz.f6 2 3 4 Tryz.results6 _ _ w.heap.size #[.int .i64 Y.ki, .int .i64 Y.co, .int .u64 Y.id, .int .u64 Y.tg, .int .u32 Y.me, .int .i64 Y.si, .int .i64 Y.ty, .int .i64 Y.pr, .int .u64 Y.qt, .int .u64 Y.pe, .int .i64 Y.en] _ _ (by rfl) (by rfl) (by rfl) HST.out.row info27) rfl ⟨by rw [HR.out]; rfl, HST.out.bel _ _ (below_drewN HB8.out _) (Nat.le_refl _)⟩
                · have HR := hid (HR1.out.trans (if_neg (fun h => hq h.2)))
                  have hqt : (OUT == l.take n) = false := by simpa using hq
                  have hqn : (OUT != l.take n) = true := by simpa using hq
                  clear HR1 hq
                  go_wp2
                  go_quiet (fail)
                  go_wp2_with (first | (refine wpList_st (by rfl) 29 (.tmp 2) (.tmp 82) (by rfl) w.heap.size #[.int .i64 0, .int .i64 0, .int .u64 0, .int .u64 0, .int .u32 0, .int .i64 0, .int .i64 0, .int .i64 0, .int .u64 0, .int .u64 0, .int .i64 0] (by rfl) (by rfl) 29 #[.int .i64 0, .int .i64 0, .int .u64 0, .int .u64 0, .int .u32 0, .int .i64 0, .int .i64 0, .int .i64 0, .int .u64 0, .int .u64 0, .int .i64 0] HI9 info27 rfl (by simp [Value.oneCell']) ?_; intro w9 hst; have HST := hid hst; clear hst; refine Hid.out ?_))
                  refine hid ?_
                  go_wp2
                  exact bodyPost_ret (res27t Tryz.f6 2 3 4 Tryz.results6 _ _ w.heap.size #[.int .i64 0, .int .i64 0, .int .u64 0, .int .u64 0, .int .u32 0, .int .i64 0, .int .i64 0, .int .i64 0, .int .u64 0, .int .u64 0, .int .i64 0] _ _ (by rfl) (by rfl) (by rfl) HST.out.row info27) rfl ⟨by rw [HR.out]; rfl, HST.out.bel _ _ (below_drewN HB8.out _) (Nat.le_refl _)⟩
              · have HR := hid (HR1.out.trans (if_neg (fun h => hE0 h.1)))
                have hEt : (E != 0) = true := by simpa using hE0
                clear HR1 hE0
                go_wp2
                go_quiet (fail)
                go_wp2_with (first | (refine wpList_st (by rfl) 29 (.tmp 2) (.tmp 82) (by rfl) w.heap.size #[.int .i64 0, .int .i64 0, .int .u64 0, .int .u64 0, .int .u32 0, .int .i64 0, .int .i64 0, .int .i64 0, .int .u64 0, .int .u64 0, .int .i64 0] (by rfl) (by rfl) 29 #[.int .i64 0, .int .i64 0, .int .u64 0, .int .u64 0, .int .u32 0, .int .i64 0, .int .i64 0, .int .i64 0, .int .u64 0, .int .u64 0, .int .i64 0] HI9 info27 rfl (by simp [Value.oneCell']) ?_; intro w9 hst; have HST := hid hst; clear hst; refine Hid.out ?_))
                refine hid ?_
                go_wp2
                exact bodyPost_ret (res27t Tryz.f6 2 3 4 Tryz.results6 _ _ w.heap.size #[.int .i64 0, .int .i64 0, .int .u64 0, .int .u64 0, .int .u32 0, .int .i64 0, .int .i64 0, .int .i64 0, .int .u64 0, .int .u64 0, .int .i64 0] _ _ (by rfl) (by rfl) (by rfl) HST.out.row info27) rfl ⟨by rw [HR.out]; rfl, HST.out.bel _ _ (below_drewN HB8.out _) (Nat.le_refl _)⟩
        · have hq : (KL == kd) = false := by simpa using heq
          have HN2 := hid (show ∀ i : Int, 1 ≤ i → i < ((k + 1 : Nat) : Int) → lineK i ≠ kd from fun i i1 i2 => by
            by_cases hi : i = (k : Int)
            · subst hi; rw [hKL]; exact heq
            · exact HN.out i i1 (by omega))
          clear heq hKL HN
          go_wp2_with (first | (go_at_call 17; refine (LE.out _).mono ?_; rintro e w3 ⟨rfl, hb⟩; have HB3 := hid (btr HBr.out hb); clear hb; refine Hid.out ?_))
          refine hid ?_
          go_wp2
          go_roundw
          case rel => exact ⟨k + 1, by first | rfl | go_num, by omega, by omega, HB3, HN2⟩
          case measure => simp [RowKit.intOf]; omega
  · have HR := hid (rlR_bad hd he)
    have hne : (er != 0) = true := by simpa using he
    clear HD hd he
    go_enter Tryz.func6, Tryz.ntmps6
    go_wp2_with (first | (go_at_call 16; refine (DE.out _ (HS.out.on HB0.out)).mono ?_; rintro e w2 ⟨v, rfl, hO⟩; have HO := hid hO; clear hO; refine Hid.out ?_))
    have HI2 := row_on HI.out HO.out.2.1
    have HB2 := hid (btr HB0.out HO.out.2.1)
    clear HO DE HI HB0
    refine hid ?_
    go_wp2_with (first | (refine wpList_st (by rfl) 29 (.tmp 2) (.tmp 26) (by rfl) w.heap.size #[.int .i64 0, .int .i64 0, .int .u64 0, .int .u64 0, .int .u32 0, .int .i64 0, .int .i64 0, .int .i64 0, .int .u64 0, .int .u64 0, .int .i64 0] (by rfl) (by rfl) 29 #[.int .i64 0, .int .i64 0, .int .u64 0, .int .u64 0, .int .u32 0, .int .i64 0, .int .i64 0, .int .i64 0, .int .u64 0, .int .u64 0, .int .i64 0] HI2 info27 rfl (by simp [Value.oneCell']) ?_; intro w5 hst; have HST := hid hst; clear hst; refine Hid.out ?_))
    refine hid ?_
    go_wp2
    exact bodyPost_ret (res27t Tryz.f6 2 3 4 Tryz.results6 _ _ w.heap.size #[.int .i64 0, .int .i64 0, .int .u64 0, .int .u64 0, .int .u32 0, .int .i64 0, .int .i64 0, .int .i64 0, .int .u64 0, .int .u64 0, .int .i64 0] _ _ (by rfl) (by rfl) (by rfl) HST.out.row info27) rfl ⟨by rw [HR.out]; rfl, HST.out.bel _ _ HB2.out (Nat.le_refl _)⟩
end Go.Proofs.YtjgjoohdocjpkaaGreatDoor.Msg
namespace Go.Proofs.YtjgjoohdocjpkaaGreatDoor.Msg
open Go.RowKit Go.Maps Go.Deep Go.Lib
set_option linter.unusedVariables false
set_option linter.unusedSimpArgs false
theorem agnG_step (f : Int → Int) (k : Int) (L : List Int) (j : Nat) (h : j < L.length) : agnG f k (L.take (j + 1)) = (agnG f k (L.take j)).set L[j] (f L[j]) := by
  unfold agnG
  rw [List.take_succ_eq_append_getElem h, List.foldl_append]
  rfl
/-- a list of fields is no event. -/
theorem no_evt {w : World} {A p : Nat} {y : Evt} {a b c : Int} (h : w.heap[A]? = some (.cells y.v 34 (0, 0))) (h0 : w.cell? ⟨A, p, none⟩ = some (.int .i64 a)) (h1 : w.cell? ⟨A, p + 1, none⟩ = some (.int .u64 b)) (h2 : w.cell? ⟨A, p + 2, none⟩ = some (.int .i64 c)) : False := by
  rw [row_cell h] at h0 h1 h2
  unfold Evt.v eV at h0 h1 h2
  have hp : p < 13 := by
    rcases Nat.lt_or_ge p 13 with h' | h'
    · exact h'
    · rw [Array.getElem?_eq_none (by simpa using h')] at h0; cases h0
  obtain rfl | rfl | rfl | rfl | rfl | rfl | rfl | rfl | rfl | rfl | rfl | rfl | rfl : p = 0 ∨ p = 1 ∨ p = 2 ∨ p = 3 ∨ p = 4 ∨ p = 5 ∨ p = 6 ∨ p = 7 ∨ p = 8 ∨ p = 9 ∨ p = 10 ∨ p = 11 ∨ p = 12 := by omega
  all_goals simp at h0 h1 h2
structure ReR (f : Int → Int) (k : Int) (q : Option Addr) (L : List Int) (j : Nat) (w4 wr : World) : Prop where
  a : wr.heap[w4.heap.size]? = some (.cells (agnG f k (L.take j)).v 34 (0, 0))
  s : Sf wr q (64 + k) L
  bel : Below w4.heap.size w4 wr
theorem sfE_st {w w' : World} {A : Nat} {cs : Array Value} {q : Option Addr} {k : Int} {L : List Int} (h : Sf w q k L) (hst : St w A 34 cs w') (hq : ∀ b o, q = some ⟨b, o, none⟩ → 0 < L.length → b ≠ A) : Sf w' q k L := by
  intro i hi
  obtain ⟨b, o, e, h0, h1, h2, h3⟩ := h i hi
  have hb := hq b o e (by omega)
  exact ⟨b, o, e, hst.cell hb h0, hst.cell hb h1, hst.cell hb h2, hst.cell hb h3⟩
theorem reR_one {l : List UInt8} {kd : List UInt8} {tg : List (Int × List UInt8)} {n : Nat} {k : Int} (hd : decR l = (kd, tg, n, 0)) (hk : evK kd tg = some k) : reR l = if (rlE k tg).e = 0 ∧ lnE (rlE k tg) = l.take n then (rlE k tg, n, 0) else (zeroE, 0, 40) := by
  unfold reR
  rw [hd]
  simp only [ne_eq, not_true_eq_false, if_false, hk]
theorem reR_none {l : List UInt8} {kd : List UInt8} {tg : List (Int × List UInt8)} {n : Nat} (hd : decR l = (kd, tg, n, 0)) (hk : evK kd tg = none) : reR l = (zeroE, 0, 41) := by
  unfold reR
  rw [hd]
  simp only [ne_eq, not_true_eq_false, if_false, hk]
theorem reR_bad {l : List UInt8} {kd : List UInt8} {tg : List (Int × List UInt8)} {n : Nat} {e : Int} (hd : decR l = (kd, tg, n, e)) (he : e ≠ 0) : reR l = (zeroE, n, e) := by
  unfold reR
  rw [hd]
  simp only [ne_eq]
  rw [if_pos he]
theorem mid_one (tg : List (Int × List UInt8)) (h : 1 < tg.length) : (tg.drop 1).take 1 = [tg[1]] := by
  rw [List.drop_eq_getElem_cons h]
  rfl
theorem evK_no1 {kd : List UInt8} {tg : List (Int × List UInt8)} (h : ¬ kd = [56]) : evK kd tg = none := by
  unfold evK
  rw [if_neg (fun x => h x.1)]
theorem evK_no2 {kd : List UInt8} {tg : List (Int × List UInt8)} (h : ¬ 2 ≤ tg.length) : evK kd tg = none := by
  unfold evK
  rw [if_neg (fun x => h x.2)]
theorem evK_no3 {kd : List UInt8} {tg : List (Int × List UInt8)} (h : 1 < tg.length) (ht : ¬ tg[1].1 = 150) : evK kd tg = none := by
  unfold evK
  rw [mid_one tg h]
  have : numOf [tg[1]] 150 = (0, 30) := by
    unfold numOf val?
    rw [List.find?_cons_of_neg (by simpa using ht)]
    rfl
  rw [this]
  split <;> simp
theorem mid_num {tg : List (Int × List UInt8)} (h : 1 < tg.length) (ht : tg[1].1 = 150) : numOf [tg[1]] 150 = numEnd (num tg[1].2) := by
  unfold numOf val?
  rw [List.find?_cons_of_pos (by simpa using ht)]
  rfl
theorem evK_yes {kd : List UInt8} {tg : List (Int × List UInt8)} (hk : kd = [56]) (h : 1 < tg.length) (ht : tg[1].1 = 150) (k : Nat) (k1 : 1 ≤ k) (k5 : k ≤ 5) (hv : decDigits k = tg[1].2) : evK kd tg = some (64 + (k : Int)) := by
  unfold evK
  rw [mid_one tg h, mid_num h ht, ← hv, num_dec k (by omega), if_pos ⟨hk, h⟩]
  unfold numEnd
  simp only
  rw [if_pos ⟨trivial, k1, k5⟩]
theorem evK_no4 {kd : List UInt8} {tg : List (Int × List UInt8)} (h : 1 < tg.length) (ht : tg[1].1 = 150) (hv : ∀ k : Nat, 1 ≤ k → k < 6 → decDigits k ≠ tg[1].2) : evK kd tg = none := by
  unfold evK
  rw [mid_one tg h, mid_num h ht]
  split
  · cases hn : num tg[1].2 with
    | none => simp [numEnd]
    | some k =>
      unfold numEnd
      simp only
      rw [if_neg (fun x => hv k x.2.1 (by omega) (num_some _ _ hn).1)]
  · rfl

set_option maxHeartbeats 16000000 in
set_option maxRecDepth 100000 in
theorem rreadE_any (l : List UInt8) (q : Option Addr) (cap : Nat) (w : World) (hl : l.length < 4611686018427387904) (hcap : l.length ≤ cap) (hcm : cap < 9223372036854775808) (hS : Sb w q l) :
    Calls Tryz.prog 8 #[.slice q l.length cap] w fun e w' => e = .returned (.tuple #[.agg (reR l).1.v, .int .i64 ((reR l).2.1 : Nat), .int .i64 (reR l).2.2]) ∧ Below w.heap.size w w' := by
  have HS := hid hS
  have HI := hid (heap_alloc_new w (.cells zeroE.v 34))
  have HB0 := hid (ball w (.cells zeroE.v 34))
  have DE := hid (fun w hS => rdecode_any l q cap w hl hcap hcm hS)
  obtain ⟨kd, tg, n, er, hd⟩ : ∃ a b c d, decR l = (a, b, c, d) := ⟨_, _, _, _, rfl⟩
  have HD := hid hd
  rw [hd] at DE
  simp only at DE
  have HZ := hid (show zeroE.v = #[.int .u64 0, .int .i64 0, .int .u64 0, .int .u64 0, .int .u64 0, .int .u32 0, .int .i64 0, .int .i64 0, .int .i64 0, .int .u64 0, .int .u64 0, .int .i64 0, .int .i64 0] from rfl)
  rw [HZ.out] at HI HB0
  clear hS
  by_cases he : er = 0
  · subst he
    obtain ⟨n1, n2, n3, n4⟩ := decR_back hd
    obtain ⟨s1, s2, s3⟩ := line_small n3
    have HS3 := hid s3
    clear hd n3 n4 s3
    by_cases hk8 : kd = [56]
    · subst hk8
      by_cases h2 : 1 < tg.length
      · by_cases h150 : tg[1].1 = 150
        · have HNO := hid (fun hv => reR_none HD.out (evK_no4 (kd := [56]) h2 h150 hv))
          have HYES := hid (fun k k1 k5 hv => reR_one HD.out (evK_yes (kd := [56]) rfl h2 h150 k k1 k5 hv))
          have NU := hid (fun q cap t w hT => rnumber_any tg q cap t w (by omega) (fun x hx => by have := HS3.out x hx; omega) hT)
          have DK := hid (fun (k : Nat) (h : k ≤ 5) w => rdecimal_any k (by omega) w)
          obtain ⟨bq, oq, rfl, _⟩ := HS.out 0 (by omega)
          have g2 : ¬ ((tg.length : Int) < 2) := by omega
          have g2' : (1 : Int) < (tg.length : Int) := by omega
          go_enter Tryz.func8, Tryz.ntmps8
          go_wp2_with (first | (go_at_call 16; refine (DE.out _ (HS.out.on HB0.out)).mono ?_; rintro e w2 ⟨v, rfl, hO⟩; have HO := hid hO; clear hO; refine Hid.out ?_))
          have HI2 := hid (row_on HI.out HO.out.2.1)
          have HB2 := hid (btr HB0.out HO.out.2.1)
          obtain ⟨ql, cl, rfl, hTl, hcl, hml⟩ := HO.out.form
          have HT := hid hTl
          clear hTl HO DE HI HB0
          have HI3 := HI2.out
          obtain ⟨tb, to, rfl, t0, t1⟩ := HT.out 1 h2
          simp only [Nat.one_mul] at t0 t1
          rw [h150] at t0
          obtain ⟨V, hV⟩ : ∃ v, tg[1].2 = v := ⟨_, rfl⟩
          rw [hV] at t1 HNO HYES
          have T1 := hid t1
          clear hV h150 HD HI3
          refine hid ?_
          go_wp2_with fail
          go_loopw [9] (fun kv wr => ∃ k : Nat, kv = .int .i64 k ∧ 1 ≤ k ∧ k ≤ 6 ∧ Hid (Below w2.heap.size w2 wr) ∧ Hid (∀ i : Nat, 1 ≤ i → i < k → decDigits i ≠ V)) (fun kv _ => 6 - (RowKit.intOf kv).toNat)
          case atStart => exact ⟨1, rfl, by omega, by omega, hid (Below.refl _ _), hid (fun i h1 h2 => by omega)⟩
          case round =>
            obtain ⟨k, rfl, k1, k6, HBr, HN⟩ := hrel
            have HIr := hid (row_on HI2.out HBr.out)
            have HBW := hid (btr HB2.out HBr.out)
            clear t0 t1
            have t1 : wr.cell? ⟨tb, to + 2 + 1, none⟩ = some (.string ⟨V.toArray⟩) := (HBr.out.cell (cell_lt T1.out)).trans T1.out
            by_cases hk6 : k = 6
            · subst hk6
              have HR := hid (HNO.out HN.out)
              have HI3 := HIr.out
              clear HN t1
              go_wp2_with (first | (refine wpList_st (by rfl) 34 (.tmp 2) (.tmp 103) (by rfl) w.heap.size #[.int .u64 0, .int .i64 0, .int .u64 0, .int .u64 0, .int .u64 0, .int .u32 0, .int .i64 0, .int .i64 0, .int .i64 0, .int .u64 0, .int .u64 0, .int .i64 0, .int .i64 0] (by rfl) (by rfl) 34 #[.int .u64 0, .int .i64 0, .int .u64 0, .int .u64 0, .int .u64 0, .int .u32 0, .int .i64 0, .int .i64 0, .int .i64 0, .int .u64 0, .int .u64 0, .int .i64 0, .int .i64 0] HI3 info39 rfl (by simp [Value.oneCell']) ?_; intro w5 hst; have HST := hid hst; clear hst; refine Hid.out ?_))
              refine hid ?_
              go_wp2
              exact bodyPost_ret (res30t Tryz.f8 2 3 4 Tryz.results8 _ _ w.heap.size #[.int .u64 0, .int .i64 0, .int .u64 0, .int .u64 0, .int .u64 0, .int .u32 0, .int .i64 0, .int .i64 0, .int .i64 0, .int .u64 0, .int .u64 0, .int .i64 0, .int .i64 0] _ _ (by rfl) (by rfl) (by rfl) HST.out.row info39) rfl ⟨by rw [HR.out]; rfl, HST.out.bel _ _ HBW.out (Nat.le_refl _)⟩
            · have hk5 : k ≤ 5 := by omega
              have kle : (k : Int) ≤ 5 := by omega
              have D1 := hid (fun w => DK.out k hk5 w)
              have HBD := hid (show Below wr.heap.size wr wr.drew from Below.drew (Below.refl _ _))
              have CF := hid (fun (w' : World) (hb : Below wr.heap.size wr w') => (hb.cell (cell_lt t1)).trans t1)
              obtain ⟨KL, hKL⟩ : ∃ x, decDigits k = x := ⟨_, rfl⟩
              rw [hKL] at D1
              have e1 : (k : Int) % 18446744073709551616 = (k : Int) := by omega
              have e2 : IntKind.u64.wrap (k : Int) = (k : Int) := by rw [IntKind.wrap_u64]; omega
              by_cases heq : KL = V
              · have HR1 := hid (HYES.out k k1 hk5 (hKL.trans heq))
                have hq : (KL == V) = true := by simpa using heq
                have hqn : (KL != V) = false := by simpa using heq
                have FA := hid (fun w => told_any (k : Int) (by omega) (by omega) w)
                unfold FldP at FA
                have HIT := hid (fun t ht => ev_tag (k := (k : Int)) (t := t) (by omega) (by omega) ht)
                have hlen := tags_len (64 + (k : Int))
                have HOK := hid (rlE_ok (64 + (k : Int)) tg)
                have RL := hid (fun w => rlineE_any (rlE (64 + (k : Int)) tg) HOK.out.1 HOK.out.2 w)
                have hYd : rlE (64 + (k : Int)) tg = agnG (nmF tg) (k : Int) (tagsL (64 + (k : Int))) := by unfold rlE; rw [show (64 + (k : Int)) - 64 = (k : Int) by omega]
                rw [hYd] at HR1 RL
                obtain ⟨L, hL⟩ : ∃ l, tagsL (64 + (k : Int)) = l := ⟨_, rfl⟩
                rw [hL] at FA HIT hlen HR1 RL
                obtain ⟨f, hf⟩ : ∃ f, nmF tg = f := ⟨_, rfl⟩
                have HF := hid (show ∀ t, ((numOf tg t).1 : Int) = f t from fun t => by rw [← hf]; rfl)
                rw [hf] at HR1 RL
                clear heq hKL HN hYd hL hf HOK HNO HYES DK
                go_wp2_with fail
                go_region_law (first | (go_simp; go_at_call 26; refine (D1.out wr.drew).mono ?_; rintro e w3 ⟨rfl, hb⟩; (have HB3 := hid (btr HBD.out hb)); (have cf3 := CF.out w3 HB3.out); clear hb))
                all_goals
                  have HB4 := hid (btr HBr.out HB3.out)
                  have HA5 := hid (heap_alloc_new w3 (.cells #[.int .u64 0, .int .i64 (k : Int), .int .u64 0, .int .u64 0, .int .u64 0, .int .u32 0, .int .i64 0, .int .i64 0, .int .i64 0, .int .u64 0, .int .u64 0, .int .i64 0, .int .i64 0] 34))
                  have HB5 := hid (ball w3 (.cells #[.int .u64 0, .int .i64 (k : Int), .int .u64 0, .int .u64 0, .int .u64 0, .int .u32 0, .int .i64 0, .int .i64 0, .int .i64 0, .int .u64 0, .int .u64 0, .int .i64 0, .int .i64 0] 34))
                  clear cf3 CF t1 HB3 HBD
                  refine hid ?_
                  go_wp2_with (first | (go_at_call 27; refine (FA.out _).mono ?_; rintro e w6 ⟨q6, c6, rfl, hS6, hb⟩; have PK := hid (show ReR f (k : Int) q6 L 0 w3 w6 from ⟨by simpa [agnG, bareE, Evt.v, eV] using row_on HA5.out hb, hS6, btr HB5.out hb⟩); clear hS6 hb; refine Hid.out ?_))
                  have HQA := hid (show ∀ b o, q6 = some ⟨b, o, none⟩ → 0 < L.length → b ≠ w3.heap.size from fun b o e h0 hb => by
                    obtain ⟨b', o', e', c0, c1, c2, _⟩ := PK.out.s 0 h0
                    rw [e'] at e
                    simp at e
                    obtain ⟨rfl, rfl⟩ := e
                    subst hb
                    exact no_evt PK.out.a c0 c1 c2)
                  have HT4 := hid (HT.out.on HB4.out)
                  have HS4 := hid ((HS.out.on HB2.out).on HB4.out)
                  have HI4 := hid (row_on HI2.out HB4.out)
                  have HBW4 := hid (btr HB2.out HB4.out)
                  clear HA5 HB5 FA HT HB4 HI2 HB2 HBr HIr HBW
                  refine hid ?_
                  go_wp2
                  go_loopw [12] (fun iv wr => ∃ j : Nat, j ≤ L.length ∧ iv = .int .i64 j ∧ ReR f (k : Int) q6 L j w3 wr) (fun iv _ => L.length - (RowKit.intOf iv).toNat)
                  case atStart => exact ⟨0, Nat.zero_le _, rfl, PK.out⟩
                  case round =>
                    obtain ⟨j, hj, rfl, hpk⟩ := hrel
                    have PJ := hid hpk
                    clear hpk PK
                    by_cases hjl : j < L.length
                    · have hjl' : (j : Int) < (L.length : Int) := by omega
                      have hj0 : (0 : Int) ≤ (j : Int) := by omega
                      obtain ⟨qb, qo, rfl, f0, _, _, _⟩ := PJ.out.s j hjl
                      have HAG := hid (agnG_step f (k : Int) L j hjl)
                      have HTG := hid (HIT.out L[j] (List.getElem_mem hjl))
                      obtain ⟨t, ht⟩ : ∃ t, L[j] = t := ⟨_, rfl⟩
                      rw [ht] at f0 HAG HTG
                      have N1 := hid (NU.out (some ⟨tb, to, none⟩) cl t wr (HT4.out.on PJ.out.bel))
                      rw [HF.out t] at N1
                      obtain ⟨NE, hNE⟩ : ∃ y, (numOf tg t).2 = y := ⟨_, rfl⟩
                      rw [hNE] at N1
                      have WI := hid (fun w => withE_any (agnG f (k : Int) (L.take j)) t (f t) HTG.out w)
                      unfold Evt.v eV at WI
                      obtain ⟨d0, d1, d2, d3, d4, d5, d6, d7, d8, d9, d10, d11, d12⟩ := cells_E PJ.out.a
                      clear ht hNE
                      go_wp2_with (first | (go_at_call 20; refine N1.out.mono ?_; rintro e wn ⟨rfl, rfl⟩; refine Hid.out ?_))
                      refine hid ?_
                      go_wp2
                      go_region_with (first | (go_at_call 28; refine (WI.out wn.drew).mono ?_; rintro e w7 ⟨rfl, hb⟩; (have HR7 := hid (show w7.heap[w3.heap.size]? = some (.cells (agnG f (k : Int) (L.take j)).v 34 (0, 0)) from row_on (w := wn.drew) PJ.out.a hb)); (obtain ⟨e0, e1, e2, e3, e4, e5, e6, e7, e8, e9, e10, e11, e12⟩ := cells_E HR7.out); (obtain ⟨z0, z1, z2, z3, z4, z5, z6, z7, z8, z9, z10, z11, z12⟩ := frz_E HR7.out); have HB7 := hid hb; clear hb))
                      all_goals
                        obtain ⟨W3, hW3, hST⟩ := st13 w7 w3.heap.size _ ((agnG f (k : Int) (L.take j)).set t (f t)) HR7.out
                        rw [← HAG.out] at hST
                        have PN := hid (show ReR f (k : Int) (some ⟨qb, qo, none⟩) L (j + 1) w3 W3 from ⟨hST.row, sfE_st (Sf.on (w := wn.drew) PJ.out.s HB7.out) hST (fun b o e h => HQA.out b o e h), hST.bel _ _ (btr (show Below w3.heap.size w3 wn.drew from PJ.out.bel.drew) HB7.out) (Nat.le_refl _)⟩)
                        clear hST z0 z1 z2 z3 z4 z5 z6 z7 z8 z9 z10 z11 z12 e0 e1 e2 e3 e4 e5 e6 e7 e8 e9 e10 e11 e12 d0 d1 d2 d3 d4 d5 d6 d7 d8 d9 d10 d11 d12 HR7
                        rw [hW3]
                        clear hW3
                        go_wp2
                        go_roundw
                        case rel => exact ⟨j + 1, by omega, by go_num, PN.out⟩
                        case measure => simp [RowKit.intOf]; omega
                    · have hje : j = L.length := by omega
                      subst hje
                      have hfa := PJ.out.a
                      rw [List.take_length (l := L)] at hfa
                      have HFA := hid hfa
                      have HBj := hid PJ.out.bel
                      clear hfa PJ
                      obtain ⟨Y, hY⟩ : ∃ y, agnG f (k : Int) L = y := ⟨_, rfl⟩
                      rw [hY] at HFA HR1 RL
                      obtain ⟨OUT, hO⟩ : ∃ y, lnE Y = y := ⟨_, rfl⟩
                      rw [hO] at HR1 RL
                      obtain ⟨E, hE⟩ : ∃ y, Y.e = y := ⟨_, rfl⟩
                      rw [hE] at HR1 RL
                      clear hY hO hE HIT HF NU
                      unfold Evt.v eV at RL HFA
                      obtain ⟨d0, d1, d2, d3, d4, d5, d6, d7, d8, d9, d10, d11, d12⟩ := cells_E HFA.out
                      go_wp2_with (first | (go_at_call 29; refine (RL.out _).mono ?_; rintro e w8 ⟨v8, rfl, hA8⟩; have HA8 := hid hA8; clear hA8; refine Hid.out ?_))
                      obtain ⟨q8, c8, hv8, hS8, _, hb8⟩ := HA8.out
                      subst hv8
                      have HF8 := hid (row_on HFA.out hb8)
                      have HI8 := hid (row_on (row_on HI4.out HBj.out) hb8)
                      have HB8 := hid (btr (btr HBW4.out HBj.out) hb8)
                      have HS8 := hid ((HS4.out.on HBj.out).on hb8)
                      have htl : (l.take n).length = n := by simp; omega
                      have cv1 := conv_drew hS8 c8 _ rfl
                      have cv2 := conv_drew (HS8.out.take n) cap n htl
                      have g3 : (0 : Int) ≤ (n : Int) := by omega
                      have g4 : (n : Int) ≤ (cap : Int) := by omega
                      clear d0 d1 d2 d3 d4 d5 d6 d7 d8 d9 d10 d11 d12 HA8 hS8 hb8 HFA RL HI4 HBj HBW4 HS4 htl
                      have HI9 := HI8.out
                      refine hid ?_
                      by_cases hE0 : E = 0
                      · subst hE0
                        by_cases hq : OUT = l.take n
                        · have HR := hid (HR1.out.trans (if_pos ⟨rfl, hq⟩))
                          have hqt : (OUT == l.take n) = true := by simpa using hq
                          have hqn : (OUT != l.take n) = false := by simpa using hq
                          clear HR1 hq
                          go_wp2
                          go_quiet (fail)
                          have HF9 := HF8.out
                          go_wp2_with (first | (refine wpList_load_row (by rfl) 34 (.tmp 10) (by rfl) w3.heap.size (by rfl) 34 #[.int .u64 Y.sq, .int .i64 Y.kd, .int .u64 Y.id, .int .u64 Y.ot, .int .u64 Y.tg, .int .u32 Y.me, .int .i64 Y.si, .int .i64 Y.ty, .int .i64 Y.pr, .int .u64 Y.qt, .int .u64 Y.pe, .int .i64 Y.re, .int .i64 Y.co] (0, 0) _ HF9 Tryz.underlying34 rfl info39 ?_) | (refine wpList_st (by rfl) 34 (.tmp 2) (.tmp 101) (by rfl) w.heap.size #[.int .u64 Y.sq, .int .i64 Y.kd, .int .u64 Y.id, .int .u64 Y.ot, .int .u64 Y.tg, .int .u32 Y.me, .int .i64 Y.si, .int .i64 Y.ty, .int .i64 Y.pr, .int .u64 Y.qt, .int .u64 Y.pe, .int .i64 Y.re, .int .i64 Y.co] (by rfl) (by rfl) 34 #[.int .u64 0, .int .i64 0, .int .u64 0, .int .u64 0, .int .u64 0, .int .u32 0, .int .i64 0, .int .i64 0, .int .i64 0, .int .u64 0, .int .u64 0, .int .i64 0, .int .i64 0] HI9 info39 rfl (by simp [Value.oneCell']) ?_; intro w9 hst; have HST := hid hst; clear hst; refine Hid.out ?_))
                          refine hid ?_
                          go_wp2
                          exact bodyPost_ret (res30t Tryz.f8 2 3 4 Tryz.results8 _ _ w.heap.size #[.int .u64 Y.sq, .int .i64 Y.kd, .int .u64 Y.id, .int .u64 Y.ot, .int .u64 Y.tg, .int .u32 Y.me, .int .i64 Y.si, .int .i64 Y.ty, .int .i64 Y.pr, .int .u64 Y.qt, .int .u64 Y.pe, .int .i64 Y.re, .int .i64 Y.co] _ _ (by rfl) (by rfl) (by rfl) HST.out.row info39) rfl ⟨by rw [HR.out]; rfl, HST.out.bel _ _ (below_drewN HB8.out _) (Nat.le_refl _)⟩
                        · have HR := hid (HR1.out.trans (if_neg (fun h => hq h.2)))
                          have hqt : (OUT == l.take n) = false := by simpa using hq
                          have hqn : (OUT != l.take n) = true := by simpa using hq
                          clear HR1 hq
                          go_wp2
                          go_quiet (fail)
                          go_wp2_with (first | (refine wpList_st (by rfl) 34 (.tmp 2) (.tmp 100) (by rfl) w.heap.size #[.int .u64 0, .int .i64 0, .int .u64 0, .int .u64 0, .int .u64 0, .int .u32 0, .int .i64 0, .int .i64 0, .int .i64 0, .int .u64 0, .int .u64 0, .int .i64 0, .int .i64 0] (by rfl) (by rfl) 34 #[.int .u64 0, .int .i64 0, .int .u64 0, .int .u64 0, .int .u64 0, .int .u32 0, .int .i64 0, .int .i64 0, .int .i64 0, .int .u64 0, .int .u64 0, .int .i64 0, .int .i64 0] HI9 info39 rfl (by simp [Value.oneCell']) ?_; intro w9 hst; have HST := hid hst; clear hst; refine Hid.out ?_))
                          refine hid ?_
                          go_wp2
                          exact bodyPost_ret (res30t Tryz.f8 2 3 4 Tryz.results8 _ _ w.heap.size #[.int .u64 0, .int .i64 0, .int .u64 0, .int .u64 0, .int .u64 0, .int .u32 0, .int .i64 0, .int .i64 0, .int .i64 0, .int .u64 0, .int .u64 0, .int .i64 0, .int .i64 0] _ _ (by rfl) (by rfl) (by rfl) HST.out.row info39) rfl ⟨by rw [HR.out]; rfl, HST.out.bel _ _ (below_drewN HB8.out _) (Nat.le_refl _)⟩
                      · have HR := hid (HR1.out.trans (if_neg (fun h => hE0 h.1)))
                        have hEt : (E != 0) = true := by simpa using hE0
                        clear HR1 hE0
                        go_wp2
                        go_quiet (fail)
                        go_wp2_with (first | (refine wpList_st (by rfl) 34 (.tmp 2) (.tmp 100) (by rfl) w.heap.size #[.int .u64 0, .int .i64 0, .int .u64 0, .int .u64 0, .int .u64 0, .int .u32 0, .int .i64 0, .int .i64 0, .int .i64 0, .int .u64 0, .int .u64 0, .int .i64 0, .int .i64 0] (by rfl) (by rfl) 34 #[.int .u64 0, .int .i64 0, .int .u64 0, .int .u64 0, .int .u64 0, .int .u32 0, .int .i64 0, .int .i64 0, .int .i64 0, .int .u64 0, .int .u64 0, .int .i64 0, .int .i64 0] HI9 info39 rfl (by simp [Value.oneCell']) ?_; intro w9 hst; have HST := hid hst; clear hst; refine Hid.out ?_))
                        refine hid ?_
                        go_wp2
                        exact bodyPost_ret (res30t Tryz.f8 2 3 4 Tryz.results8 _ _ w.heap.size #[.int .u64 0, .int .i64 0, .int .u64 0, .int .u64 0, .int .u64 0, .int .u32 0, .int .i64 0, .int .i64 0, .int .i64 0, .int .u64 0, .int .u64 0, .int .i64 0, .int .i64 0] _ _ (by rfl) (by rfl) (by rfl) HST.out.row info39) rfl ⟨by rw [HR.out]; rfl, HST.out.bel _ _ (below_drewN HB8.out _) (Nat.le_refl _)⟩
              · have hq : (KL == V) = false := by simpa using heq
                have hqn : (KL != V) = true := by simpa using heq
                have HN2 := hid (show ∀ i : Nat, 1 ≤ i → i < k + 1 → decDigits i ≠ V from fun i i1 i2 => by
                  by_cases hi : i = k
                  · subst hi; rw [hKL]; exact heq
                  · exact HN.out i i1 (by omega))
                clear heq hKL HN
                go_wp2_with fail
                go_region_law (first | (go_simp; go_at_call 26; refine (D1.out wr.drew).mono ?_; rintro e w3 ⟨rfl, hb⟩; (have HB3 := hid (btr HBD.out hb)); (have cf3 := CF.out w3 HB3.out); clear hb))
                all_goals
                  have HB4 := hid (btr HBr.out HB3.out)
                  refine hid ?_
                  go_wp2
                  go_roundw
                  case rel => exact ⟨k + 1, by first | rfl | go_num, by omega, by omega, HB4, HN2⟩
                  case measure => simp [RowKit.intOf]; omega
        · have HR := hid (reR_none HD.out (evK_no3 (kd := [56]) h2 h150))
          have g2 : ¬ ((tg.length : Int) < 2) := by omega
          have g2' : (1 : Int) < (tg.length : Int) := by omega
          clear HD
          go_enter Tryz.func8, Tryz.ntmps8
          go_wp2_with (first | (go_at_call 16; refine (DE.out _ (HS.out.on HB0.out)).mono ?_; rintro e w2 ⟨v, rfl, hO⟩; have HO := hid hO; clear hO; refine Hid.out ?_))
          have HI2 := hid (row_on HI.out HO.out.2.1)
          have HB2 := hid (btr HB0.out HO.out.2.1)
          obtain ⟨ql, cl, rfl, hTl, hcl, hml⟩ := HO.out.form
          have HT := hid hTl
          clear hTl HO DE HI HB0
          have HI3 := HI2.out
          obtain ⟨tb, to, rfl, t0, t1⟩ := HT.out 1 h2
          simp only [Nat.one_mul] at t0 t1
          obtain ⟨TT, hTT⟩ : ∃ v, tg[1].1 = v := ⟨_, rfl⟩
          rw [hTT] at t0 h150
          have g5 : (TT != 150) = true := by simpa using h150
          have g5e : (TT == 150) = false := by simpa using h150
          clear hTT h150
          refine hid ?_
          go_wp2_with (first | (refine wpList_st (by rfl) 34 (.tmp 2) (.tmp 43) (by rfl) w.heap.size #[.int .u64 0, .int .i64 0, .int .u64 0, .int .u64 0, .int .u64 0, .int .u32 0, .int .i64 0, .int .i64 0, .int .i64 0, .int .u64 0, .int .u64 0, .int .i64 0, .int .i64 0] (by rfl) (by rfl) 34 #[.int .u64 0, .int .i64 0, .int .u64 0, .int .u64 0, .int .u64 0, .int .u32 0, .int .i64 0, .int .i64 0, .int .i64 0, .int .u64 0, .int .u64 0, .int .i64 0, .int .i64 0] HI3 info39 rfl (by simp [Value.oneCell']) ?_; intro w5 hst; have HST := hid hst; clear hst; refine Hid.out ?_))
          refine hid ?_
          go_wp2
          exact bodyPost_ret (res30t Tryz.f8 2 3 4 Tryz.results8 _ _ w.heap.size #[.int .u64 0, .int .i64 0, .int .u64 0, .int .u64 0, .int .u64 0, .int .u32 0, .int .i64 0, .int .i64 0, .int .i64 0, .int .u64 0, .int .u64 0, .int .i64 0, .int .i64 0] _ _ (by rfl) (by rfl) (by rfl) HST.out.row info39) rfl ⟨by rw [HR.out]; rfl, HST.out.bel _ _ HB2.out (Nat.le_refl _)⟩
      · have HR := hid (reR_none HD.out (evK_no2 (kd := [56]) h2))
        have g2 : ((tg.length : Int) < 2) := by omega
        clear HD
        go_enter Tryz.func8, Tryz.ntmps8
        go_wp2_with (first | (go_at_call 16; refine (DE.out _ (HS.out.on HB0.out)).mono ?_; rintro e w2 ⟨v, rfl, hO⟩; have HO := hid hO; clear hO; refine Hid.out ?_))
        have HI2 := hid (row_on HI.out HO.out.2.1)
        have HB2 := hid (btr HB0.out HO.out.2.1)
        obtain ⟨ql, cl, rfl, hTl, hcl, hml⟩ := HO.out.form
        have HT := hid hTl
        clear hTl HO DE HI HB0
        have HI3 := HI2.out
        refine hid ?_
        go_wp2_with (first | (refine wpList_st (by rfl) 34 (.tmp 2) (.tmp 43) (by rfl) w.heap.size #[.int .u64 0, .int .i64 0, .int .u64 0, .int .u64 0, .int .u64 0, .int .u32 0, .int .i64 0, .int .i64 0, .int .i64 0, .int .u64 0, .int .u64 0, .int .i64 0, .int .i64 0] (by rfl) (by rfl) 34 #[.int .u64 0, .int .i64 0, .int .u64 0, .int .u64 0, .int .u64 0, .int .u32 0, .int .i64 0, .int .i64 0, .int .i64 0, .int .u64 0, .int .u64 0, .int .i64 0, .int .i64 0] HI3 info39 rfl (by simp [Value.oneCell']) ?_; intro w5 hst; have HST := hid hst; clear hst; refine Hid.out ?_))
        refine hid ?_
        go_wp2
        exact bodyPost_ret (res30t Tryz.f8 2 3 4 Tryz.results8 _ _ w.heap.size #[.int .u64 0, .int .i64 0, .int .u64 0, .int .u64 0, .int .u64 0, .int .u32 0, .int .i64 0, .int .i64 0, .int .i64 0, .int .u64 0, .int .u64 0, .int .i64 0, .int .i64 0] _ _ (by rfl) (by rfl) (by rfl) HST.out.row info39) rfl ⟨by rw [HR.out]; rfl, HST.out.bel _ _ HB2.out (Nat.le_refl _)⟩
    · have HR := hid (reR_none HD.out (evK_no1 hk8))
      have g0 : (kd == [56]) = false := by simpa using hk8
      have g0n : (kd != [56]) = true := by simpa using hk8
      clear HD
      go_enter Tryz.func8, Tryz.ntmps8
      go_wp2_with (first | (go_at_call 16; refine (DE.out _ (HS.out.on HB0.out)).mono ?_; rintro e w2 ⟨v, rfl, hO⟩; have HO := hid hO; clear hO; refine Hid.out ?_))
      have HI2 := hid (row_on HI.out HO.out.2.1)
      have HB2 := hid (btr HB0.out HO.out.2.1)
      obtain ⟨ql, cl, rfl, hTl, hcl, hml⟩ := HO.out.form
      have HT := hid hTl
      clear hTl HO DE HI HB0
      have HI3 := HI2.out
      refine hid ?_
      go_wp2_with (first | (refine wpList_st (by rfl) 34 (.tmp 2) (.tmp 43) (by rfl) w.heap.size #[.int .u64 0, .int .i64 0, .int .u64 0, .int .u64 0, .int .u64 0, .int .u32 0, .int .i64 0, .int .i64 0, .int .i64 0, .int .u64 0, .int .u64 0, .int .i64 0, .int .i64 0] (by rfl) (by rfl) 34 #[.int .u64 0, .int .i64 0, .int .u64 0, .int .u64 0, .int .u64 0, .int .u32 0, .int .i64 0, .int .i64 0, .int .i64 0, .int .u64 0, .int .u64 0, .int .i64 0, .int .i64 0] HI3 info39 rfl (by simp [Value.oneCell']) ?_; intro w5 hst; have HST := hid hst; clear hst; refine Hid.out ?_))
      refine hid ?_
      go_wp2
      exact bodyPost_ret (res30t Tryz.f8 2 3 4 Tryz.results8 _ _ w.heap.size #[.int .u64 0, .int .i64 0, .int .u64 0, .int .u64 0, .int .u64 0, .int .u32 0, .int .i64 0, .int .i64 0, .int .i64 0, .int .u64 0, .int .u64 0, .int .i64 0, .int .i64 0] _ _ (by rfl) (by rfl) (by rfl) HST.out.row info39) rfl ⟨by rw [HR.out]; rfl, HST.out.bel _ _ HB2.out (Nat.le_refl _)⟩
  · have HR := hid (reR_bad hd he)
    have hne : (er != 0) = true := by simpa using he
    clear HD hd he
    go_enter Tryz.func8, Tryz.ntmps8
    go_wp2_with (first | (go_at_call 16; refine (DE.out _ (HS.out.on HB0.out)).mono ?_; rintro e w2 ⟨v, rfl, hO⟩; have HO := hid hO; clear hO; refine Hid.out ?_))
    have HI2 := hid (row_on HI.out HO.out.2.1)
    have HB2 := hid (btr HB0.out HO.out.2.1)
    obtain ⟨ql, cl, rfl, hTl, hcl, hml⟩ := HO.out.form
    have HT := hid hTl
    clear hTl HO DE HI HB0
    have HI3 := HI2.out
    refine hid ?_
    go_wp2_with (first | (refine wpList_st (by rfl) 34 (.tmp 2) (.tmp 26) (by rfl) w.heap.size #[.int .u64 0, .int .i64 0, .int .u64 0, .int .u64 0, .int .u64 0, .int .u32 0, .int .i64 0, .int .i64 0, .int .i64 0, .int .u64 0, .int .u64 0, .int .i64 0, .int .i64 0] (by rfl) (by rfl) 34 #[.int .u64 0, .int .i64 0, .int .u64 0, .int .u64 0, .int .u64 0, .int .u32 0, .int .i64 0, .int .i64 0, .int .i64 0, .int .u64 0, .int .u64 0, .int .i64 0, .int .i64 0] HI3 info39 rfl (by simp [Value.oneCell']) ?_; intro w5 hst; have HST := hid hst; clear hst; refine Hid.out ?_))
    refine hid ?_
    go_wp2
    exact bodyPost_ret (res30t Tryz.f8 2 3 4 Tryz.results8 _ _ w.heap.size #[.int .u64 0, .int .i64 0, .int .u64 0, .int .u64 0, .int .u64 0, .int .u32 0, .int .i64 0, .int .i64 0, .int .i64 0, .int .u64 0, .int .u64 0, .int .i64 0, .int .i64 0] _ _ (by rfl) (by rfl) (by rfl) HST.out.row info39) rfl ⟨by rw [HR.out]; rfl, HST.out.bel _ _ HB2.out (Nat.le_refl _)⟩
end Go.Proofs.YtjgjoohdocjpkaaGreatDoor.Msg
namespace Go.Proofs.YtjgjoohdocjpkaaGreatDoor.Msg
open Go.RowKit Go.Maps Go.Deep Go.Lib
set_option linter.unusedVariables false
set_option linter.unusedSimpArgs false
def marks : List UInt8 := [1, 2, 3, 4, 5]
theorem marks_in (w : World) : Sb (w.alloc (.cells #[.int .u8 1, .int .u8 2, .int .u8 3, .int .u8 4, .int .u8 5] 5)) (some ⟨w.heap.size, 0, none⟩) marks := by
  intro i hi
  refine ⟨w.heap.size, 0, rfl, ?_⟩
  rw [Nat.zero_add, World.cell?_alloc_new]
  have hi' : i < 5 := hi
  obtain rfl | rfl | rfl | rfl | rfl : i = 0 ∨ i = 1 ∨ i = 2 ∨ i = 3 ∨ i = 4 := by omega
  all_goals rfl
theorem own_long {B : Nat} {W0 w : World} {v : Value} {l : List UInt8} (h : Own B W0 w v l) (hl : 0 < l.length) : ∃ g cap, v = .slice (some ⟨g, 0, none⟩) l.length cap ∧ Sb w (some ⟨g, 0, none⟩) l ∧ l.length ≤ cap ∧ cap < 9223372036854775808 := by
  obtain ⟨g, cap, e, _, hS, _, h1, h2⟩ := own_free h hl
  exact ⟨g, cap, e, hS, h1, h2⟩
theorem sb_front {w : World} {q : Option Addr} {l r : List UInt8} (h : Sb w q (l ++ r)) : Sb w q l := by
  intro i hi
  obtain ⟨b, o, e, hc⟩ := h i (by rw [List.length_append]; omega)
  refine ⟨b, o, e, ?_⟩
  rw [List.getElem_append_left hi] at hc
  exact hc
set_option maxHeartbeats 4000000 in
set_option maxRecDepth 100000 in
/-- the law's hand. -/
theorem hand_any (l : List UInt8) (q : Option Addr) (cap : Nat) (w : World) (hl : l.length ≤ 140737488351232) (hS : Sg w q cap l) :
    Calls Tryz.prog 4 #[.slice q l.length cap] w fun e w' => ∃ g c, e = .returned (.slice (some ⟨g, 0, none⟩) (l.length + 5) c) ∧ Sb w' (some ⟨g, 0, none⟩) (l ++ marks) ∧ l.length + 5 ≤ c ∧ c < 9223372036854775808 ∧ Below w.heap.size w w' := by
  have HE := hid (own_emptyB w)
  have SE := hid (hS.on (ball w (.cells #[] 5)))
  clear hS
  go_enter Tryz.func4, Tryz.ntmps4
  go_wp2_with (first | (at_builtin; refine own_sliceQ _ (by rfl) (.tmp 4) (.tmp 5) (by rfl) w.heap.size _ [] (by rfl) w HE.out q _ cap l rfl (by rfl) SE.out (by simp; omega) ?_; intro v1 w1 hO1; have HO1 := hid (show Own w.heap.size w w1 v1 l from hO1); clear hO1; refine Hid.out ?_))
  have HO2 := hid (HO1.out.on (ball w1 (.cells #[.int .u8 1, .int .u8 2, .int .u8 3, .int .u8 4, .int .u8 5] 5)))
  have HM := hid (marks_in w1)
  clear HE SE HO1
  refine hid ?_
  go_wp2_with (first | (at_builtin; refine own_slice _ (by rfl) (.tmp 7) (.tmp 8) (by rfl) w.heap.size v1 l (by rfl) w HO2.out w1.heap.size 0 5 5 marks rfl (by rfl) HM.out (by simp [marks]; omega) ?_; intro v3 w3 hO3; have HO3 := hid hO3; clear hO3; refine Hid.out ?_))
  obtain ⟨g, c, rfl, hS3, hc3, hm3⟩ := own_long HO3.out (by simp [marks])
  rw [show (l ++ marks).length = l.length + 5 by simp [marks]] at hc3 ⊢
  have HS3 := hid hS3
  clear hS3
  refine hid ?_
  go_wp2
  go_ret
  exact ⟨g, c, by simp, HS3.out, hc3, hm3, HO3.out.2.1⟩
set_option maxHeartbeats 4000000 in
set_option maxRecDepth 100000 in
/-- the law's left. -/
theorem left_any (l : List UInt8) (p q : Option Addr) (c cap m : Nat) (hm : m = (l ++ marks).length) (w : World) (hl : l.length ≤ 140737488351232) (hP : Sb w p (l ++ marks)) (hS : Sb w q l) :
    Calls Tryz.prog 9 #[.slice p m c, .slice q l.length cap] w fun e w' => e = .returned (.bool true) ∧ w' = w := by
  subst hm
  have c1 := conv_any hP c
  have c2 := conv_any hS cap
  have hq : (⟨l.toArray⟩ : ByteArray) ++ ⟨#[1, 2, 3, 4, 5]⟩ = ⟨(l ++ marks).toArray⟩ := by
    apply ByteArray.ext
    simp [marks]
  obtain ⟨Z, hZ⟩ : ∃ z, l ++ marks = z := ⟨_, rfl⟩
  rw [hZ] at c1 hq
  rw [hZ]
  clear hP hS hZ
  go_enter Tryz.func9, Tryz.ntmps9
  go_wp2
  go_ret
  simp

set_option maxHeartbeats 16000000 in
set_option maxRecDepth 100000 in
theorem reads_walk (z : List UInt8) (qz : Option Addr) (cz : Nat) (w : World) (hSg : Sg w qz cz z) (hz1 : z.length ≤ cz) (hz2 : cz < 9223372036854775808) (hzl : z.length ≤ 140737488351232) (hM : LayM w) :
    Calls Tryz.prog 3 #[.slice qz z.length cz] w fun e w' => e = .returned (.bool true) ∧ Below w.heap.size w w' := by
  have HM := hid hM
  have SZ0 := hid hSg.1
  have HA := hid (fun w hS => hand_any z qz cz w hzl hS)
  have HG := hid hSg
  have LF := hid (fun p c m hm w hP hS => left_any z p qz c cz m hm w hzl hP hS)
  have RL := hid (fun q c h1 h2 w hS hM => readI_any z q c w (by omega) h1 h2 hS hM)
  have RE := hid (fun q c h1 h2 w hS hM => readE_any z q c w (by omega) h1 h2 hS hM)
  have DL := hid (fun w hS => rreadI_any z qz cz w (by omega) hz1 hz2 hS)
  have DR := hid (fun w hS => rreadE_any z qz cz w (by omega) hz1 hz2 hS)
  obtain ⟨J, n, d, hR⟩ : ∃ a b c, rlR z = (a, b, c) := ⟨_, _, _, rfl⟩
  obtain ⟨U, m, h, hS⟩ : ∃ a b c, reR z = (a, b, c) := ⟨_, _, _, rfl⟩
  rw [hR] at RL DL
  rw [hS] at RE DR
  simp only at RL RE DL DR
  have q1 := eqI_yes J.ki J.co J.id J.tg J.me J.si J.ty J.pr J.qt J.pe J.en J.ki J.co J.id J.tg J.me J.si J.ty J.pr J.qt J.pe J.en rfl
  have q2 := eqE_yes U.sq U.kd U.id U.ot U.tg U.me U.si U.ty U.pr U.qt U.pe U.re U.co U.sq U.kd U.id U.ot U.tg U.me U.si U.ty U.pr U.qt U.pe U.re U.co rfl
  unfold iV at q1
  unfold eV at q2
  have HB0 := hid (Below.refl w.heap.size w)
  have SZ := SZ0
  clear hM hSg hR hS SZ0
  unfold Inp.v iV at RL DL
  unfold Evt.v eV at RE DR
  go_enter Tryz.func3, Tryz.ntmps3
  go_wp2_with (first | (go_at_call 4; refine (HA.out _ HG.out).mono ?_; rintro e w1 ⟨g, c, rfl, hS1, hc1, hm1, hb⟩; have SA := hid hS1; clear hS1; have SZ_1 := hid (SZ.out.on hb); have HB_1 := hid (btr HB0.out hb); clear hb; refine Hid.out ?_))
  clear SZ HB0
  have g3 : (0 : Int) ≤ (z.length : Int) := by omega
  have g4 : (z.length : Int) ≤ (c : Int) := by omega
  have hzc : z.length ≤ c := by omega
  clear HA HG hc1
  refine hid ?_
  go_wp2_with (first | (go_at_call 5; refine (RL.out (some ⟨g, 0, none⟩) c hzc hm1 _ (sb_front SA.out) (HM.out.on HB_1.out)).mono ?_; rintro e w2 ⟨rfl, hb⟩; have SZ_2 := hid (SZ_1.out.on hb); have SA_2 := hid (SA.out.on hb); have HB_2 := hid (btr HB_1.out hb); clear hb; refine Hid.out ?_))
  clear SZ_1 SA HB_1
  have SZ_a1 := hid (SZ_2.out.on (ball w2 (.cells (#[.int .i64 J.ki, .int .i64 J.co, .int .u64 J.id, .int .u64 J.tg, .int .u32 J.me, .int .i64 J.si, .int .i64 J.ty, .int .i64 J.pr, .int .u64 J.qt, .int .u64 J.pe, .int .i64 J.en]) 29)))
  have SA_a1 := hid (SA_2.out.on (ball w2 (.cells (#[.int .i64 J.ki, .int .i64 J.co, .int .u64 J.id, .int .u64 J.tg, .int .u32 J.me, .int .i64 J.si, .int .i64 J.ty, .int .i64 J.pr, .int .u64 J.qt, .int .u64 J.pe, .int .i64 J.en]) 29)))
  have RA_a1 := hid (heap_alloc_new w2 (.cells (#[.int .i64 J.ki, .int .i64 J.co, .int .u64 J.id, .int .u64 J.tg, .int .u32 J.me, .int .i64 J.si, .int .i64 J.ty, .int .i64 J.pr, .int .u64 J.qt, .int .u64 J.pe, .int .i64 J.en]) 29))
  have HB_a1 := hid (btr HB_2.out (ball w2 (.cells (#[.int .i64 J.ki, .int .i64 J.co, .int .u64 J.id, .int .u64 J.tg, .int .u32 J.me, .int .i64 J.si, .int .i64 J.ty, .int .i64 J.pr, .int .u64 J.qt, .int .u64 J.pe, .int .i64 J.en]) 29)))
  clear SZ_2 SA_2 HB_2
  refine hid ?_
  go_wp2_with (first | (go_at_call 6; refine (DL.out _ SZ_a1.out).mono ?_; rintro e w3 ⟨rfl, hb⟩; have RA_3 := hid (row_on RA_a1.out hb); have SZ_3 := hid (SZ_a1.out.on hb); have SA_3 := hid (SA_a1.out.on hb); have HB_3 := hid (btr HB_a1.out hb); clear hb; refine Hid.out ?_))
  clear RA_a1 SZ_a1 SA_a1 HB_a1
  have RA_a2 := hid (row_on RA_3.out (ball w3 (.cells (#[.int .i64 J.ki, .int .i64 J.co, .int .u64 J.id, .int .u64 J.tg, .int .u32 J.me, .int .i64 J.si, .int .i64 J.ty, .int .i64 J.pr, .int .u64 J.qt, .int .u64 J.pe, .int .i64 J.en]) 29)))
  have SZ_a2 := hid (SZ_3.out.on (ball w3 (.cells (#[.int .i64 J.ki, .int .i64 J.co, .int .u64 J.id, .int .u64 J.tg, .int .u32 J.me, .int .i64 J.si, .int .i64 J.ty, .int .i64 J.pr, .int .u64 J.qt, .int .u64 J.pe, .int .i64 J.en]) 29)))
  have SA_a2 := hid (SA_3.out.on (ball w3 (.cells (#[.int .i64 J.ki, .int .i64 J.co, .int .u64 J.id, .int .u64 J.tg, .int .u32 J.me, .int .i64 J.si, .int .i64 J.ty, .int .i64 J.pr, .int .u64 J.qt, .int .u64 J.pe, .int .i64 J.en]) 29)))
  have RB_a2 := hid (heap_alloc_new w3 (.cells (#[.int .i64 J.ki, .int .i64 J.co, .int .u64 J.id, .int .u64 J.tg, .int .u32 J.me, .int .i64 J.si, .int .i64 J.ty, .int .i64 J.pr, .int .u64 J.qt, .int .u64 J.pe, .int .i64 J.en]) 29))
  have HB_a2 := hid (btr HB_3.out (ball w3 (.cells (#[.int .i64 J.ki, .int .i64 J.co, .int .u64 J.id, .int .u64 J.tg, .int .u32 J.me, .int .i64 J.si, .int .i64 J.ty, .int .i64 J.pr, .int .u64 J.qt, .int .u64 J.pe, .int .i64 J.en]) 29)))
  clear RA_3 SZ_3 SA_3 HB_3
  refine hid ?_
  go_wp2_with (first | (go_at_call 7; refine (RE.out (some ⟨g, 0, none⟩) c hzc hm1 _ (sb_front SA_a2.out) (HM.out.on HB_a2.out)).mono ?_; rintro e w4 ⟨rfl, hb⟩; have RA_4 := hid (row_on RA_a2.out hb); have RB_4 := hid (row_on RB_a2.out hb); have SZ_4 := hid (SZ_a2.out.on hb); have SA_4 := hid (SA_a2.out.on hb); have HB_4 := hid (btr HB_a2.out hb); clear hb; refine Hid.out ?_))
  clear RA_a2 RB_a2 SZ_a2 SA_a2 HB_a2
  have RA_a3 := hid (row_on RA_4.out (ball w4 (.cells (#[.int .u64 U.sq, .int .i64 U.kd, .int .u64 U.id, .int .u64 U.ot, .int .u64 U.tg, .int .u32 U.me, .int .i64 U.si, .int .i64 U.ty, .int .i64 U.pr, .int .u64 U.qt, .int .u64 U.pe, .int .i64 U.re, .int .i64 U.co]) 34)))
  have RB_a3 := hid (row_on RB_4.out (ball w4 (.cells (#[.int .u64 U.sq, .int .i64 U.kd, .int .u64 U.id, .int .u64 U.ot, .int .u64 U.tg, .int .u32 U.me, .int .i64 U.si, .int .i64 U.ty, .int .i64 U.pr, .int .u64 U.qt, .int .u64 U.pe, .int .i64 U.re, .int .i64 U.co]) 34)))
  have SZ_a3 := hid (SZ_4.out.on (ball w4 (.cells (#[.int .u64 U.sq, .int .i64 U.kd, .int .u64 U.id, .int .u64 U.ot, .int .u64 U.tg, .int .u32 U.me, .int .i64 U.si, .int .i64 U.ty, .int .i64 U.pr, .int .u64 U.qt, .int .u64 U.pe, .int .i64 U.re, .int .i64 U.co]) 34)))
  have SA_a3 := hid (SA_4.out.on (ball w4 (.cells (#[.int .u64 U.sq, .int .i64 U.kd, .int .u64 U.id, .int .u64 U.ot, .int .u64 U.tg, .int .u32 U.me, .int .i64 U.si, .int .i64 U.ty, .int .i64 U.pr, .int .u64 U.qt, .int .u64 U.pe, .int .i64 U.re, .int .i64 U.co]) 34)))
  have RC_a3 := hid (heap_alloc_new w4 (.cells (#[.int .u64 U.sq, .int .i64 U.kd, .int .u64 U.id, .int .u64 U.ot, .int .u64 U.tg, .int .u32 U.me, .int .i64 U.si, .int .i64 U.ty, .int .i64 U.pr, .int .u64 U.qt, .int .u64 U.pe, .int .i64 U.re, .int .i64 U.co]) 34))
  have HB_a3 := hid (btr HB_4.out (ball w4 (.cells (#[.int .u64 U.sq, .int .i64 U.kd, .int .u64 U.id, .int .u64 U.ot, .int .u64 U.tg, .int .u32 U.me, .int .i64 U.si, .int .i64 U.ty, .int .i64 U.pr, .int .u64 U.qt, .int .u64 U.pe, .int .i64 U.re, .int .i64 U.co]) 34)))
  clear RA_4 RB_4 SZ_4 SA_4 HB_4
  refine hid ?_
  go_wp2_with (first | (go_at_call 8; refine (DR.out _ SZ_a3.out).mono ?_; rintro e w5 ⟨rfl, hb⟩; have RA_5 := hid (row_on RA_a3.out hb); have RB_5 := hid (row_on RB_a3.out hb); have RC_5 := hid (row_on RC_a3.out hb); have SZ_5 := hid (SZ_a3.out.on hb); have SA_5 := hid (SA_a3.out.on hb); have HB_5 := hid (btr HB_a3.out hb); clear hb; refine Hid.out ?_))
  clear RA_a3 RB_a3 RC_a3 SZ_a3 SA_a3 HB_a3
  have RA_a4 := hid (row_on RA_5.out (ball w5 (.cells (#[.int .u64 U.sq, .int .i64 U.kd, .int .u64 U.id, .int .u64 U.ot, .int .u64 U.tg, .int .u32 U.me, .int .i64 U.si, .int .i64 U.ty, .int .i64 U.pr, .int .u64 U.qt, .int .u64 U.pe, .int .i64 U.re, .int .i64 U.co]) 34)))
  have RB_a4 := hid (row_on RB_5.out (ball w5 (.cells (#[.int .u64 U.sq, .int .i64 U.kd, .int .u64 U.id, .int .u64 U.ot, .int .u64 U.tg, .int .u32 U.me, .int .i64 U.si, .int .i64 U.ty, .int .i64 U.pr, .int .u64 U.qt, .int .u64 U.pe, .int .i64 U.re, .int .i64 U.co]) 34)))
  have RC_a4 := hid (row_on RC_5.out (ball w5 (.cells (#[.int .u64 U.sq, .int .i64 U.kd, .int .u64 U.id, .int .u64 U.ot, .int .u64 U.tg, .int .u32 U.me, .int .i64 U.si, .int .i64 U.ty, .int .i64 U.pr, .int .u64 U.qt, .int .u64 U.pe, .int .i64 U.re, .int .i64 U.co]) 34)))
  have SZ_a4 := hid (SZ_5.out.on (ball w5 (.cells (#[.int .u64 U.sq, .int .i64 U.kd, .int .u64 U.id, .int .u64 U.ot, .int .u64 U.tg, .int .u32 U.me, .int .i64 U.si, .int .i64 U.ty, .int .i64 U.pr, .int .u64 U.qt, .int .u64 U.pe, .int .i64 U.re, .int .i64 U.co]) 34)))
  have SA_a4 := hid (SA_5.out.on (ball w5 (.cells (#[.int .u64 U.sq, .int .i64 U.kd, .int .u64 U.id, .int .u64 U.ot, .int .u64 U.tg, .int .u32 U.me, .int .i64 U.si, .int .i64 U.ty, .int .i64 U.pr, .int .u64 U.qt, .int .u64 U.pe, .int .i64 U.re, .int .i64 U.co]) 34)))
  have RD_a4 := hid (heap_alloc_new w5 (.cells (#[.int .u64 U.sq, .int .i64 U.kd, .int .u64 U.id, .int .u64 U.ot, .int .u64 U.tg, .int .u32 U.me, .int .i64 U.si, .int .i64 U.ty, .int .i64 U.pr, .int .u64 U.qt, .int .u64 U.pe, .int .i64 U.re, .int .i64 U.co]) 34))
  have HB_a4 := hid (btr HB_5.out (ball w5 (.cells (#[.int .u64 U.sq, .int .i64 U.kd, .int .u64 U.id, .int .u64 U.ot, .int .u64 U.tg, .int .u32 U.me, .int .i64 U.si, .int .i64 U.ty, .int .i64 U.pr, .int .u64 U.qt, .int .u64 U.pe, .int .i64 U.re, .int .i64 U.co]) 34)))
  clear RA_5 RB_5 RC_5 SZ_5 SA_5 HB_5
  obtain ⟨z1_0, z1_1, z1_2, z1_3, z1_4, z1_5, z1_6, z1_7, z1_8, z1_9, z1_10⟩ := cells_I RA_a4.out
  obtain ⟨z2_0, z2_1, z2_2, z2_3, z2_4, z2_5, z2_6, z2_7, z2_8, z2_9, z2_10⟩ := cells_I RB_a4.out
  obtain ⟨z3_0, z3_1, z3_2, z3_3, z3_4, z3_5, z3_6, z3_7, z3_8, z3_9, z3_10, z3_11, z3_12⟩ := cells_E RC_a4.out
  obtain ⟨z4_0, z4_1, z4_2, z4_3, z4_4, z4_5, z4_6, z4_7, z4_8, z4_9, z4_10, z4_11, z4_12⟩ := cells_E RD_a4.out
  clear RL RE DL DR
  refine hid ?_
  go_wp2_with (first | (go_at_call 9; refine (LF.out _ c _ (by simp [marks]) _ SA_a4.out SZ_a4.out).mono ?_; rintro e wf ⟨rfl, rfl⟩; refine Hid.out ?_))
  refine hid ?_
  go_wp2
  go_ret
  exact ⟨by simp, HB_a4.out⟩
end Go.Proofs.YtjgjoohdocjpkaaGreatDoor.Msg
namespace Go.Proofs.YtjgjoohdocjpkaaGreatDoor
open Go.ChangeShapes Go.WideShapes Go.ChangeAt Go.RowKit Go.Joins
set_option linter.unusedVariables false
theorem own : ownKnob Tryz.prog.godebug = none := by kernel_rfl
theorem laidOut : laidOutB Tryz.prog = true := by kernel_rfl
theorem g0Type : (Tryz.prog.globals[3]?).map (·.type) = some 146 := by kernel_rfl
theorem g1Type : (Tryz.prog.globals[1]?).map (·.type) = some 119 := by kernel_rfl
theorem g2Type : (Tryz.prog.globals[2]?).map (·.type) = some 119 := by kernel_rfl
theorem cells94 : Tryz.prog.cellsOf 146 = 20 := by kernel_rfl
theorem cells22 : Tryz.prog.cellsOf 24 = 1 := by kernel_rfl
theorem cells115 : Tryz.prog.cellsOf 154 = 1 := by kernel_rfl
theorem cells9 : Tryz.prog.cellsOf 9 = 1 := by kernel_rfl
theorem star : "*" ++ "errors.errorString" = "*errors.errorString" := by decide
theorem row113 (u : TypeId) (h : Tryz.prog.typeName? 3 u = some "*errors.errorString") : u = 152 :=
  typeName_ptr_named (nm := "errors.errorString") (by rw [star]; kernel_rfl) (by kernel_rfl) (by decide) u (by rw [star]; exact h)
theorem powList : [1, 10, 100, 1000, 10000, 100000, 1000000, 10000000, 100000000, 1000000000, 10000000000, 100000000000, 1000000000000, 10000000000000, 100000000000000, 1000000000000000, 10000000000000000, 100000000000000000, 1000000000000000000, 10000000000000000000] = Lib.pow10Tab := by decide

/-- the rows' list gives what the calls read. -/
theorem lay_of {W : World} (h : laidMetH Tryz.prog [("math/bits.deBruijn32tab", Rows.laid_math_bits_deBruijn32tab), ("math/bits.deBruijn64tab", Rows.laid_math_bits_deBruijn64tab), ("internal/strconv.uint64pow10", Rows.laid_internal_strconv_uint64pow10), ("strconv.ErrRange", Rows.laid_strconv_ErrRange), ("strconv.ErrSyntax", Rows.laid_strconv_ErrSyntax)] W) : LayE W := by
  have h0 : laidMet Tryz.prog [("math/bits.deBruijn32tab", Rows.laid_math_bits_deBruijn32tab), ("math/bits.deBruijn64tab", Rows.laid_math_bits_deBruijn64tab), ("internal/strconv.uint64pow10", Rows.laid_internal_strconv_uint64pow10), ("strconv.ErrRange", Rows.laid_strconv_ErrRange), ("strconv.ErrSyntax", Rows.laid_strconv_ErrSyntax)] W := h
  have h1 := h0.tail.tail
  refine ⟨⟨?_⟩, ?_, ?_⟩
  · rw [← powList]
    exact Lib.tabIs_of_head g0 g0Type Tryz.underlying146 Tryz.underlying24 cells22 cells94 h1
  · obtain ⟨a, s, hv, _⟩ := laid_sentinel h1.tail.tail g1 g1Type Tryz.underlying119 row113 Tryz.underlying152 Tryz.underlying154 rfl rfl Tryz.underlying9 cells115 cells9
    exact ⟨_, _, hv⟩
  · obtain ⟨a, s, hv, _⟩ := laid_sentinel h1.tail g2 g2Type Tryz.underlying119 row113 Tryz.underlying152 Tryz.underlying154 rfl rfl Tryz.underlying9 cells115 cells9
    exact ⟨_, _, hv⟩

theorem max_cell (w : World) (h : w.ShapedOpen Tryz.prog) : ∃ m, w.cell? ⟨0, 0, none⟩ = some (.int .i64 m) :=
  Go.Proofs.cell_of_shapedOpen_int (zero := #[.int .i64 0]) (t := 3) h (of_decide_eq_true (by kernel_rfl)) (by kernel_rfl) rfl (by kernel_rfl) (by kernel_rfl) Tryz.underlying3
/-- a world in which the variables lie so. -/
noncomputable def low : Nat := (World.holding Tryz.prog default ⟨#[], #[], []⟩).heap.size
def putAt (cs : Array Value) : Obj → Obj
  | .cells _ t frozen => .cells cs t frozen
  | o => o
noncomputable def laidWorld (os : Os) : World :=
  { World.holding Tryz.prog os ⟨#[.cells #[.string ⟨#[118, 97, 108, 117, 101, 32, 111, 117, 116, 32, 111, 102, 32, 114, 97, 110, 103, 101]⟩] 154, .cells #[.string ⟨#[105, 110, 118, 97, 108, 105, 100, 32, 115, 121, 110, 116, 97, 120]⟩] 154], #[], []⟩ with
    heap := (((((World.holding Tryz.prog os ⟨#[.cells #[.string ⟨#[118, 97, 108, 117, 101, 32, 111, 117, 116, 32, 111, 102, 32, 114, 97, 110, 103, 101]⟩] 154, .cells #[.string ⟨#[105, 110, 118, 97, 108, 105, 100, 32, 115, 121, 110, 116, 97, 120]⟩] 154], #[], []⟩).heap.modify 3 (putAt (Lib.pow10Tab.map fun z => Value.int .u64 z).toArray)).modify 1 (putAt #[.iface 152 (.pointer (some ⟨low + 1, 0, none⟩))])).modify 2 (putAt #[.iface 152 (.pointer (some ⟨low, 0, none⟩))])).modify 4
      (putAt (([0, 1, 28, 2, 29, 14, 24, 3, 30, 22, 20, 15, 25, 17, 4, 8, 31, 27, 13, 23, 21, 19, 16, 7, 26, 12, 18, 6, 11, 5, 10, 9] : List Int).map fun z => Value.int .u8 z).toArray)).modify 5
      (putAt (([0, 1, 56, 2, 57, 49, 28, 3, 61, 58, 42, 50, 38, 29, 17, 4, 62, 47, 59, 36, 45, 43, 51, 22, 53, 39, 33, 30, 24, 18, 12, 5, 63, 55, 48, 27, 60, 41, 37, 16, 46, 35, 44, 21, 52, 32, 23, 11, 54, 26, 40, 15, 34, 20, 31, 10, 25, 14, 19, 9, 13, 8, 7, 6] : List Int).map fun z => Value.int .u8 z).toArray) }

section
variable {H : Type} {enc : TypeId × Value → H} {W : World} {base b0 : Nat} {spare : Nat → Bool} {held : Bool} {r : Reach}
end
end Go.Proofs.YtjgjoohdocjpkaaGreatDoor
namespace Go.Proofs.YtjgjoohdocjpkaaGreatDoor
open Go.ChangeShapes Go.WideShapes Go.ChangeAt Go.RowKit Go.Joins Go.Deep
set_option linter.unusedVariables false
section
variable {H : Type} {enc : TypeId × Value → H} {W : World} {base b0 : Nat} {spare : Nat → Bool} {held : Bool} {r : Reach}
set_option maxRecDepth 100000 in
theorem open_bytes {v : Value} {d : DataW H} {p : List MemPlace} (hv : Value.okWide Tryz.prog W r b0 22 v) (h : DataW.Trod enc Tryz.prog W base spare held 22 v d p) :
    ∃ q cap l, v = .slice q (l : List UInt8).length cap ∧ Sg W q cap l ∧ (l = [] ∨ ∃ elems rest, d = .slice elems rest ∧ l.length ≤ elems.length) ∧ l.length ≤ cap ∧ cap < 9223372036854775808 := by
  obtain ⟨a0, len0, cap0, rfl⟩ := okWide_slice (P := Tryz.prog) Tryz.underlying22 hv
  obtain ⟨fuel, hf⟩ := h
  rcases open_ints Tryz.underlying22 Tryz.underlying5 (by kernel_rfl) hf with ⟨hcs, _⟩ | ⟨x, l, c, zs, hcs, _, hl, hm, hz, hd, hcell, hwz⟩
  · simp [Value.cells] at hcs
    obtain ⟨rfl, rfl, rfl⟩ := hcs
    exact ⟨none, 0, [], rfl, ⟨fun i hi => by simp at hi, fun _ => ⟨rfl, rfl⟩⟩, Or.inl rfl, by simp, by decide⟩
  · simp [Value.cells] at hcs
    obtain ⟨rfl, rfl, rfl⟩ := hcs
    have hz' : len0 ≤ zs.length := by
      have h9 : zs.length = if spare x.block = true then cap0 else len0 := by simpa using hz
      rw [h9]
      split <;> omega
    have hln : ((zs.take len0).map (fun z => UInt8.ofNat z.toNat)).length = len0 := by simp; omega
    refine ⟨some x, cap0, (zs.take len0).map (fun z => UInt8.ofNat z.toNat), by rw [hln], ⟨?_, fun h => by cases h⟩, Or.inr ⟨_, _, congrArg Prod.fst hd, by simp [lits]⟩, by omega, by unfold maxLen at hm; omega⟩
    intro i hi
    have hi' : i < len0 := by omega
    obtain ⟨b, off, spot⟩ := x
    have hc := hcell 0 (by omega)
    have hspot : spot = none := by simpa [Addr.add] using World.cell?_spot hc
    subst hspot
    refine ⟨b, off, rfl, ?_⟩
    have h2 := hcell i (by omega)
    rw [Addr.add_mid] at h2
    rw [h2]
    have e3 : zs.getD i 0 = zs[i] := by simp [List.getD, show i < zs.length by omega]
    have h4 := bounds_u8 (hwz _ (List.getElem_mem (show i < zs.length by omega)))
    rw [e3]
    have e5 : ((zs.take len0).map (fun z => UInt8.ofNat z.toNat))[i] = UInt8.ofNat zs[i].toNat := by simp
    rw [e5]
    simp
    omega
theorem bytes5 : Tryz.prog.bytesOf 5 = 1 := by kernel_rfl

set_option maxRecDepth 100000 in
theorem len_bytes {ts : List TypeId} {ds : List (DataW H)} (h : (DataW.weightsEach Tryz.prog ts ds).all (· ≤ reachBytes) = true) (j : Nat) (ht : ts[j]? = some 22) {d : DataW H} (hd : ds[j]? = some d) {l : List UInt8}
    (hx : l = [] ∨ ∃ elems rest, d = .slice elems rest ∧ l.length ≤ elems.length) : l.length ≤ 140737488351232 := by
  rcases hx with rfl | ⟨elems, rest, rfl, hl⟩
  · simp
  · have := sized_slice h ht hd Tryz.underlying22
    rw [bytes5] at this
    unfold reachBytes at this
    omega
end
end Go.Proofs.YtjgjoohdocjpkaaGreatDoor
namespace Go.Proofs.YtjgjoohdocjpkaaGreatDoor.messageReads
open Go.ChangeShapes Go.WideShapes Go.ChangeAt Go.RowKit Go.Joins
set_option linter.unusedVariables false
set_option maxRecDepth 100000 in
theorem contract (H : Type) (enc : TypeId × Value → H) (W : World) (base : Nat) (args : Array Value) (ds gs : List (DataW H)) (before : List MemPlace)
    (hval : ∀ (j : Nat) t v, Tryz.f3.params[j]? = some t → args[j]? = some v → Value.okWide Tryz.prog W .any base t v)
    (hW : DataW.Whole enc Tryz.prog Tryz.f3.params.toList Rows.messageReadsSpec.vars false W args.toList ds gs before) (hL : laidMetH Tryz.prog Rows.messageReadsRow.laid W) (hsh : W.ShapedOpen Tryz.prog) (hZ : (DataW.weightsEach Tryz.prog (Tryz.f3.params.toList ++ (OpenSpec.ofChange Rows.messageReadsSpec).bare.plain.varTypes Tryz.prog) (ds ++ gs)).all (· ≤ reachBytes) = true) :
    Calls Tryz.prog 3 args W fun e W' => ∃ v, e = .returned v ∧ Rows.messageReadsSpec.post enc Tryz.prog Tryz.f3 false true false false W args v W' := by
  have hW' := hW
  obtain ⟨p, q, hA0, hV, rfl, hfz, hnd⟩ := hW
  have hA : DataW.TrodAll enc Tryz.prog W 0 (fun _ => true) true Tryz.f3.params.toList args.toList ds p := hA0
  rw [Tryz.params3] at hA hval
  obtain ⟨v0, vs0, d0, ds0, p0, q0, hargs, rfl, rfl, h0, r0⟩ := trodAll_cons hA
  obtain ⟨rfl, rfl, rfl⟩ := trodAll_nil r0
  obtain rfl : args = #[v0] := by cases args; simp_all
  obtain ⟨rfl, rfl⟩ := trodVars_none hV
  have k0 := h0
  have lt0 : ∀ x ∈ p0, x.block < W.heap.size := by obtain ⟨m, hm⟩ := k0; exact DataW.trod_lt m _ _ _ hm
  obtain ⟨qz, cz, z, rfl, hSg, hdz, hz1, hz2⟩ := open_bytes (hval 0 22 v0 rfl rfl) h0
  have hzl := len_bytes hZ 0 (by rw [Tryz.params3]; rfl) rfl hdz
  clear hA0
  refine (Msg.reads_walk z qz cz W hSg hz1 hz2 hzl ⟨lay_of hL, max_cell W hsh⟩).mono fun e W' ⟨he, bel⟩ => ?_
  subst he
  exact ⟨_, rfl, _, _, _, [], _, [], hW', trodAll_mk1 (shut_bool Tryz.underlying4 _), (trodAll_cons_mk (Below.trod laidOut (by kernel_rfl) (of_decide_eq_true (by kernel_rfl)) k0 bel lt0) trodAll_mk0), rfl, bel.frame _, fun h => by cases h⟩

theorem laid_met (os : Os) : laidMet Tryz.prog Rows.messageReadsRow.laid ((laidWorld os).forCall (fun _ _ => 0) ⟨#[], #[.slice none 0 0], []⟩).memory :=
  laidMet_of_run' 8 (by kernel_rfl) (by kernel_rfl)
theorem reads (os : Os) {H : Type} (enc : TypeId × Value → H) : ∃ places, DataW.whole enc Tryz.prog ((laidWorld os).forCall (fun _ _ => 0) ⟨#[], #[.slice none 0 0], []⟩).memory Tryz.f3.params.toList Rows.messageReadsSpec.vars false (#[.slice none 0 0] : Array Value).toList 8 = some ([.nil], [], places) :=
  ⟨[], by kernel_rfl⟩

set_option maxRecDepth 100000 in
theorem lifted (os : Os) (started : os.Started) (H : Type) (enc : TypeId × Value → H) (F : Stop.Interp) :
    ReturnsInHanded {} Tryz.checked os 3 .any ((OpenSpec.ofChange Rows.messageReadsSpec).preRow enc Tryz.prog Tryz.f3 Rows.messageReadsRow.domain false Rows.messageReadsRow.laid) (((OpenSpec.ofChange Rows.messageReadsSpec).at F).post enc Tryz.prog Tryz.f3 false true false false) := by
  obtain ⟨places, hx⟩ := reads os enc
  refine returnsInHanded_of_row (C := Tryz.checked) (s := OpenSpec.ofChange Rows.messageReadsSpec) own started (by kernel_rfl) Tryz.func3
    (witness_row_at (enc := enc) (C := Tryz.checked) false (laidWorld os) #[.slice none 0 0] rfl (by kernel_rfl) (by kernel_rfl) (by kernel_rfl)
      (OpenSpec.preRow_of_cond 8 hx (by kernel_rfl) (fun k hk => by cases hk) (by kernel_rfl) (laid_met os))) ?_
  intro W base args ds gs before hval hW _ _ hZ hL hsh _
  exact contract H enc W base args ds gs before hval hW hL hsh hZ

theorem said : Rows.MessageReadsSaid :=
  OpenClaim.holds_of_cond 3 Tryz.f3 rfl rfl rfl rfl rfl rfl rfl ⟨rfl, rfl, rfl, rfl, rfl⟩ rfl rfl rfl rfl rfl (by kernel_rfl) Tryz.func3 (by kernel_rfl)
    (of_decide_eq_true (by kernel_rfl)) (by unfold Func.isWrapper; first | (rw [if_pos (by decide +kernel)]; kernel_rfl) | (rw [if_neg (by decide +kernel)]; exact ⟨rfl, rfl⟩))
    (fun os started H enc _ F => by rw [OpenClaim.pre_eq_preRow]; exact lifted os started H enc F)

theorem plain (f : FuncId) (fn : Func) (hf : Tryz.pinned.checked.prog.funcNamed "bourse/bourselaw04.MessageReads" = some f) (hfn : Tryz.pinned.checked.prog.funcs[f]? = some fn) :
    true = Tryz.pinned.checked.prog.looks [] ∧ ∀ (j : Nat) t, fn.params[j]? = some t → Tryz.pinned.checked.prog.wantsStandIn t = false := by
  obtain rfl : f = 3 := Option.some.inj ((show Tryz.prog.funcNamed "bourse/bourselaw04.MessageReads" = some 3 by kernel_rfl).symm.trans hf) |>.symm
  obtain rfl : fn = Tryz.f3 := (Option.some.inj (Tryz.func3.symm.trans hfn)).symm
  refine ⟨by kernel_rfl, fun j t ht => ?_⟩
  rw [Tryz.params3] at ht
  have hm : t = 22 := by simpa using Array.mem_of_getElem? ht
  rcases hm with rfl
  · exact (show Tryz.prog.wantsStandIn 22 = false by kernel_rfl)

theorem card : Rows.MessageReadsCardSaid :=
  Claim7.holds_tied_plain_at .later [] _ _ _ _ said (fun _ h => by cases h) (by kernel_rfl) (fun _ h => by cases h) messageReads_row_tie rfl ⟨rfl, rfl⟩ (by kernel_rfl) rfl plain (by kernel_rfl)
end Go.Proofs.YtjgjoohdocjpkaaGreatDoor.messageReads
namespace Go.Proofs.YtjgjoohdocjpkaaGreatDoor
theorem messageReads_holds : Rows.MessageReadsCardSaid := messageReads.card
#print axioms messageReads_holds
end Go.Proofs.YtjgjoohdocjpkaaGreatDoor
