/-
  The law of the numbers is walked.
-/
import Derived.Test.YtalgndgoedlpoaaRuBg
namespace Go.Proofs.Ytalgndgoedlpoaa
open Go.RowKit Go.Deep Go.Shelf
set_option linter.unusedVariables false
set_option linter.unusedSimpArgs false
set_option maxHeartbeats 8000000
set_option maxRecDepth 100000
/-- commands in memory. -/
def Cmz (w : World) (q : Option Addr) (l : List Cm) : Prop := ∀ i (h : i < l.length), ∃ b off, q = some ⟨b, off, none⟩ ∧ b < w.heap.size ∧ ∀ j, j < 9 → w.cell? ⟨b, off + i * 9 + j, none⟩ = (cmr l[i])[j]?
theorem chN_cons {s h : Int} {e : Ev} {es : List Ev} {r : Int × Int} (k : chN s h (e :: es) = some r) : e.sq = nx s ∧ (e.kd = 1 → h < e.id) ∧ chN (nx s) (if e.kd = 1 then e.id else h) es = some r := by
  unfold chN at k
  split at k
  · rename_i hc; exact ⟨hc.1, hc.2, k⟩
  · cases k
theorem cmz_cells {W U : World} {q : Option Addr} {l : List Cm} (h : Cmz W q l) (hU : Below W.heap.size W U) {i : Nat} (hi : i < l.length) : ∃ b off, q = some ⟨b, off, none⟩ ∧ U.cell? ⟨b, off + i * 9, none⟩ = some (.int .i64 l[i].kd) ∧ U.cell? ⟨b, off + i * 9 + 1, none⟩ = some (.int .u64 l[i].id) ∧ U.cell? ⟨b, off + i * 9 + 2, none⟩ = some (.int .u64 l[i].tg) ∧ U.cell? ⟨b, off + i * 9 + 3, none⟩ = some (.int .u32 l[i].mb) ∧ U.cell? ⟨b, off + i * 9 + 4, none⟩ = some (.int .i64 l[i].sd) ∧ U.cell? ⟨b, off + i * 9 + 5, none⟩ = some (.int .i64 l[i].ty) ∧ U.cell? ⟨b, off + i * 9 + 6, none⟩ = some (.int .i64 l[i].pr) ∧ U.cell? ⟨b, off + i * 9 + 7, none⟩ = some (.int .u64 l[i].qt) ∧ U.cell? ⟨b, off + i * 9 + 8, none⟩ = some (.int .u64 l[i].pk) := by
  obtain ⟨b, off, hq, hb, hc⟩ := h i hi
  have go : ∀ j, j < 9 → U.cell? ⟨b, off + i * 9 + j, none⟩ = (cmr l[i])[j]? := fun j hj => (hU.cell (p := ⟨b, off + i * 9 + j, none⟩) hb).trans (hc j hj)
  exact ⟨b, off, hq, go 0 (by omega), go 1 (by omega), go 2 (by omega), go 3 (by omega), go 4 (by omega), go 5 (by omega), go 6 (by omega), go 7 (by omega), go 8 (by omega)⟩
theorem numbers_walk (cap meet : Int) (q : Option Addr) (lc : Nat) (l : List Cm) (W : World) (hl : Cmz W q l) (hok : ∀ c ∈ l, CmOk c) (hn : l.length ≤ maxLen) :
    Calls Try.prog 6 #[.agg #[.int .i64 cap, .int .i64 meet], .slice q l.length lc] W fun e w' => e = .returned (.bool true) ∧ Below W.heap.size W w' := by
  have CB := hid (fun U => begun_any cap meet U)
  obtain ⟨v, hv⟩ : ∃ v, cfg cap meet = v := ⟨_, rfl⟩
  rw [hv] at CB
  clear hv
  obtain ⟨n, hnn⟩ : ∃ n, l.length = n := ⟨_, rfl⟩
  have HN := hid hnn
  rw [hnn] at hn ⊢
  clear hnn
  have hn' : n < 9223372036854775808 := by unfold maxLen at hn; omega
  have HL := hid hl
  have HOK := hid hok
  have HB := hid (ball W (.cells #[.int .i64 cap, .int .i64 meet] 23))
  have hr := World.alloc_heap_new W (.cells #[.int .i64 cap, .int .i64 meet] 23)
  obtain ⟨W1, hW⟩ : ∃ W1, W.alloc (.cells #[.int .i64 cap, .int .i64 meet] 23) = W1 := ⟨_, rfl⟩
  rw [hW] at HB hr
  have HW := hid hW
  have c0 := row_cell hr 0
  have c1 := row_cell hr 1
  simp only [List.getElem?_toArray, List.getElem?_cons_succ, List.getElem?_cons_zero] at c0 c1
  clear hr hW hl hok
  cases v with
  | false =>
    have CB2 := hid ((CB.out W1).mono (R' := fun e w' => e = .returned (.tuple #[.pointer none, .bool true]) ∧ Below W1.heap.size W1 w') (by
      rintro e w' (⟨_, h1, h2⟩ | ⟨h, _⟩)
      · exact ⟨h1, h2⟩
      · cases h))
    go_enter Try.func6, Try.ntmps6
    go_upto_region 1 with fail
    have e0 := HW.out
    rw [e0]
    clear e0
    go_wp2_with (go_at_call 13; with_reducible refine (CB2.out).mono ?_; rintro e w1 ⟨rfl, hb1⟩; have HB1 := hid hb1; clear hb1)
    go_ret
    exact ⟨rfl, btr HB.out HB1.out⟩
  | true =>
    have CB2 := hid ((CB.out W1).mono (R' := fun e w' => ∃ B b, e = .returned (.tuple #[.pointer (some ⟨B, 0, none⟩), .bool true]) ∧ Pl W B b w' ∧ b.seq = 0 ∧ b.high = 0) (by
      rintro e w' (⟨h, _⟩ | ⟨_, B, b, h1, h2, h3⟩)
      · cases h
      · exact ⟨B, b, h1, h2.back HB.out, h3.num.2.2.2, h3.num.2.2.1⟩))
    go_enter Try.func6, Try.ntmps6
    go_upto_region 1 with fail
    have e0 := HW.out
    rw [e0]
    clear e0
    go_wp2_with (go_at_call 13; with_reducible refine (CB2.out).mono ?_; rintro e w1 ⟨B, b0, rfl, h1, hs0, hh0⟩; have H1 := hid h1; have HS0 := hid hs0; have HH0 := hid hh0; clear h1 hs0 hh0)
    clear c0 c1
    go_loopw [7, 8, 9] (fun sv hv iv wr => ∃ (i : Nat) (b : Bs), i ≤ n ∧ iv = .int .i64 i ∧ sv = .int .u64 b.seq ∧ hv = .int .u64 b.high ∧ Hid (Pl W B b wr)) (fun _ _ iv _ => n - (intOf iv).toNat)
    case atStart => exact ⟨0, b0, Nat.zero_le _, rfl, by rw [HS0.out], by rw [HH0.out], H1⟩
    case round =>
      obtain ⟨i, b, hin, rfl, rfl, rfl, HP⟩ := hrel
      by_cases hlt : i < n
      · have hil : i < l.length := by rw [HN.out]; exact hlt
        have hck := HOK.out l[i] (List.getElem_mem hil)
        obtain ⟨qb, qo, hq, a0, a1, a2, a3, a4, a5, a6, a7, a8⟩ := cmz_cells HL.out HP.out.be hil
        obtain ⟨c, hc⟩ : ∃ c, l[i] = c := ⟨_, rfl⟩
        rw [hc] at hck a0 a1 a2 a3 a4 a5 a6 a7 a8
        clear hc
        subst hq
        have CD := hid (show Calls Try.prog 10 #[.pointer (some ⟨B, 0, none⟩), .agg (cmr c)] wr fun e w' => ∃ b' p q es', e = .returned (.slice p es'.length q) ∧ Pl W B b' w' ∧ w'.ownsRow 0 58 13 (.slice p es'.length q) es'.length (evs es') ∧ chN b.seq b.high es' = some (b'.seq, b'.high) from by
          refine (pl_do c HP.out hck).mono ?_
          rintro e w' ⟨b', p, q, es', h1, h2, h3, h4⟩
          exact ⟨b', p, q, es', h1, h2, h3, (h4.good HP.out.gb hck).2.2⟩)
        unfold cmr at CD
        clear hck
        have i0' : (0 : Int) ≤ (i : Int) := by omega
        have i1 : (i : Int) < (n : Int) := by omega
        go_wp2_with (go_at_call 10; with_reducible refine (CD.out).mono ?_; rintro e w2 ⟨b', p2, q2, es', rfl, h2, ho2, hc2⟩; have H2 := hid h2; have HO2 := hid ho2; have HC2 := hid hc2; obtain ⟨m, hm⟩ : ∃ m, es'.length = m := ⟨_, rfl⟩; rw [hm]; have HM := hid hm; clear h2 ho2 hc2 hm)
        clear a0 a1 a2 a3 a4 a5 a6 a7 a8
        have CK := hid (book_any B b' w2 H2.out.bm H2.out.gb.vb.len)
        unfold bkv at CK
        go_loopw [7, 8, 11] (fun sv hv jv wr' => ∃ (j : Nat) (s h : Int), j ≤ m ∧ jv = .int .i64 j ∧ sv = .int .u64 s ∧ hv = .int .u64 h ∧ wr' = w2 ∧ Hid (chN s h (es'.drop j) = some (b'.seq, b'.high))) (fun _ _ jv _ => m - (intOf jv).toNat)
        case atStart => exact ⟨0, b.seq, b.high, Nat.zero_le _, rfl, rfl, rfl, rfl, HC2⟩
        case round =>
          obtain ⟨j, s, h, hjm, rfl, rfl, rfl, rfl, HCH⟩ := hrel
          by_cases hjl : j < m
          · have hje : j < es'.length := by rw [HM.out]; exact hjl
            obtain ⟨g, cc, hp, hmx, _, hcc⟩ := ev_cells HO2.out hje
            have hp' := (Value.slice.inj hp).1
            subst hp'
            rw [HM.out] at hmx
            have hmx' : m < 9223372036854775808 := by unfold maxLen at hmx; omega
            obtain ⟨e, he⟩ : ∃ e, es'[j] = e := ⟨_, rfl⟩
            have hch := HCH.out
            rw [List.drop_eq_getElem_cons hje, he] at hch
            obtain ⟨k1, k2, k3⟩ := chN_cons hch
            rw [he] at hcc
            have r0 := hcc 0 (by omega)
            have r1 := hcc 1 (by omega)
            have r2 := hcc 2 (by omega)
            simp only [ecs, List.getElem?_cons_succ, List.getElem?_cons_zero, Nat.add_zero] at r0 r1 r2
            have k1' : e.sq = IntKind.u64.wrap (s + 1) := k1
            rw [k1'] at r0
            have HK3 := hid k3
            have j0' : (0 : Int) ≤ (j : Int) := by omega
            have j1 : (j : Int) < (m : Int) := by omega
            clear hcc hch he k1 k1' k3 hp hmx
            by_cases kd : e.kd = 1
            · have k2' : decide (e.id ≤ h) = false := by have := k2 kd; simp; omega
              rw [kd] at r1
              have k4 := k2 kd
              clear k2
              go_wp2
              go_roundw
              case rel =>
                refine ⟨j + 1, _, _, by omega, by go_num, rfl, rfl, trivial, ?_⟩
                have := HK3.out
                rw [if_pos kd] at this
                exact this
              case measure => simp [intOf]; omega
            · have kd' : (e.kd == 1) = false := by simpa using kd
              clear k2
              go_wp2
              go_roundw
              case rel =>
                refine ⟨j + 1, _, _, by omega, by go_num, rfl, rfl, trivial, ?_⟩
                have := HK3.out
                rw [if_neg kd] at this
                exact this
              case measure => simp [intOf]; omega
          · obtain rfl : j = m := by omega
            have hend := HCH.out
            rw [List.drop_of_length_le (by rw [HM.out]; exact Nat.le_refl _)] at hend
            simp only [chN, Option.some.injEq, Prod.mk.injEq] at hend
            obtain ⟨rfl, rfl⟩ := hend
            go_wp2_with (go_at_call 17; with_reducible refine (CK.out).mono ?_; rintro e w3 ⟨v1, v2, rfl, ho1, ho2, hb3⟩; obtain ⟨x1, y1, rfl⟩ := own_form ho1; obtain ⟨x2, y2, rfl⟩ := own_form ho2; have HB3 := hid hb3; clear ho1 ho2 hb3)
            go_roundw
            case rel => exact ⟨i + 1, b', by omega, by go_num, rfl, rfl, hid ((H2.out.on HB3.out).on (ball _ _))⟩
            case measure => simp [intOf]; omega
      · obtain rfl : i = n := by omega
        go_wp2
        go_ret
        exact ⟨rfl, HP.out.be⟩
end Go.Proofs.Ytalgndgoedlpoaa
