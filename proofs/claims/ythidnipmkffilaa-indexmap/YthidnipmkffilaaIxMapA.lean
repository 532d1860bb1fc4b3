/-
  IndexMap: one step.
-/
import Derived.Test.YthidnipmkffilaaIxQ
import Derived.Deep.RegionLaw
namespace Go.Proofs.Ythidnipmkffilaa
open Go.RowKit Go.Deep
set_option linter.unusedVariables false
set_option linter.unusedSimpArgs false
set_option maxHeartbeats 8000000 in
set_option maxRecDepth 1000000 in
theorem mapW_any {room : Nat} (h1 : 1 ≤ room) (h2 : room ≤ 65536) {w : World} (q : Option Addr) (cap : Nat) (l : List StV) (hV : Stz w q l) (hb : ∀ x ∈ l, 0 ≤ x.k ∧ x.k ≤ 18446744073709551615) (hm : l.length ≤ maxLen) (q2 : Option Addr) (cap2 : Nat) (l2 : List Int) (hV2 : Kyz w q2 l2) (hb2 : ∀ x ∈ l2, 0 ≤ x ∧ x ≤ 18446744073709551615) (hm2 : l2.length ≤ maxLen) :
    Calls Try.prog 6 #[.int .i64 room, .slice q l.length cap, .slice q2 l2.length cap2] w fun e w' => e = .returned (.bool true) ∧ Below w.heap.size w w' := by
  have HN := hid (new_any h1 h2 w)
  have HV := hid hV
  have HBD := hid hb
  have HV2 := hid hV2
  have HBD2 := hid hb2
  unfold maxLen at hm hm2
  have HM2 := hid hm2
  clear hV hb h1 h2 hV2 hb2 hm2
  go_enter Try.func6, Try.ntmps6
  go_wp2_with (first | (go_at_call 17; with_reducible refine (HN.out).mono ?_; rintro e w1 ⟨X, P, rfl, hL, hX, hP, hB⟩; have HB := hid (Bm.start hL hX hP hB); clear hL hB hX hP; refine Hid.out ?_))
  clear HN
  obtain ⟨n, hn⟩ : ∃ n, pn room = n := ⟨_, rfl⟩
  rw [hn] at HB
  clear hn
  refine hid ?_
  go_wp2_with fail
  go_loopw [9, 10] (fun nv iv wr => ∃ (i : Nat) (L : List (Int × Int)) (p : Option Addr) (c : Nat), i ≤ l.length ∧ nv = .slice p L.length c ∧ iv = .int .i64 i ∧ Hid (Bm w X P n room (.slice p L.length c) L wr)) (fun _ iv _ => l.length - (intOf iv).toNat)
  case atStart => exact ⟨0, [], none, 0, Nat.zero_le _, rfl, rfl, HB⟩
  case round =>
    obtain ⟨i, L, p, c, hi, rfl, rfl, HI⟩ := hrel
    clear HB
    by_cases hin : i < l.length
    · obtain ⟨b, off, rfl, hbl, c0, c1, c2⟩ := (HV.out.on HI.out.bel).cells hin
      obtain ⟨k0, k1⟩ := HBD.out _ (List.getElem_mem hin)
      obtain ⟨x, hx⟩ : ∃ x, l[i] = x := ⟨_, rfl⟩
      rw [hx] at c0 c1 c2 k0 k1
      obtain ⟨xd, xk, xv⟩ := x
      simp only at c0 c1 c2 k0 k1
      have HKR := hid (And.intro k0 k1)
      have HCL := hid (show ∀ u, Below w.heap.size w u → u.cell? ⟨b, off + i * 3, none⟩ = some (.bool xd) ∧ u.cell? ⟨b, off + i * 3 + 1, none⟩ = some (.int .u64 xk) ∧ u.cell? ⟨b, off + i * 3 + 2, none⟩ = some (.int .i64 xv) from fun u hu => by
        obtain ⟨b', off', e', _, y0, y1, y2⟩ := (HV.out.on hu).cells hin
        cases e'
        rw [hx] at y0 y1 y2
        exact ⟨y0, y1, y2⟩)
      have f1 : (i : Int) < (l.length : Int) := by omega
      have f2 : (0 : Int) ≤ (i : Int) := by omega
      have ct1 : ((i : Int)).toNat = i := by omega
      have wj : IntKind.i64.wrap ((i : Int) + 1) = ((i + 1 : Nat) : Int) := by simp [IntKind.wrap, IntKind.bits, IntKind.signed]; omega
      have HJM := hid (show i + 1 ≤ l.length ∧ l.length - (i + 1) < l.length - i by omega)
      obtain ⟨j1, hj1⟩ : ∃ j1, i + 1 = j1 := ⟨_, rfl⟩
      rw [hj1] at wj HJM
      have hLl := HI.out.len.2
      have hfl := fi_le L xk
      clear hx hi hin hj1 k0 k1 c0 c1 c2 hbl
      go_wp2_with fail
      go_loopw [11] (fun kv wq => ∃ j : Nat, j ≤ fi L xk ∧ kv = .int .i64 j ∧ Hid (Bm w X P n room (.slice p L.length c) L wq)) (fun kv _ => L.length - (intOf kv).toNat)
      case atStart => exact ⟨0, Nat.zero_le _, rfl, HI⟩
      case round =>
        obtain ⟨j, hj, rfl, HQ⟩ := hrel
        by_cases hjl : j < L.length
        · obtain ⟨g, c', e1, hg, hcl, q0, q1⟩ := HQ.out.ow.at j hjl
          obtain ⟨rfl, rfl⟩ : p = some ⟨g, 0, none⟩ ∧ c = c' := by simpa using e1
          obtain ⟨d0, d1, d2⟩ := HCL.out _ HQ.out.bel
          have g1 : (j : Int) < (L.length : Int) := by omega
          have g2 : (0 : Int) ≤ (j : Int) := by omega
          have ct2 : ((j : Int)).toNat = j := by omega
          obtain ⟨y, hy⟩ : ∃ y, L[j].1 = y := ⟨_, rfl⟩
          rw [hy] at q0
          by_cases hyx : y = xk
          · have hjf : j = fi L xk := by
              rcases Nat.lt_or_ge j (fi L xk) with h9 | h9
              · exact absurd (hy.trans hyx) (fi_before h9 hjl)
              · omega
            have HJF := hid hjf
            subst hyx
            have yy : (y == y) = true := by simp
            have HW := hid (HQ.out.step (Kp.drewN _ wr 0))
            have HVL := hid (show ∀ v, (y, v) ∈ L → v = L[j].2 from fun v hv => by
              have h9 := nd_val HQ.out.nd hv
              simp only [← hjf] at h9
              rw [h9])
            have HIN := hid (show (y, L[j].2) ∈ L from by
              have h9 := List.getElem_mem hjl
              rw [← hy]; exact h9)
            obtain ⟨z, hz⟩ : ∃ z, L[j].2 = z := ⟨_, rfl⟩
            rw [hz] at q1 HVL HIN
            have HZ := hid hz
            have HJL := hid hjl
            have HYE := hid hy
            clear e1 hg hj hjf hy hz hfl
            go_wp2_with fail
            go_quiet (fail)
            have HQ2 := hid (HQ.out.step (Kp.drewN _ wr nq))
            obtain ⟨T, hL, ht, hh, hcn⟩ := HQ2.out.ex
            have HD := hid (drop_any hL ht y)
            have HP := hid (put_any hL ht xv HKR.out.1 HKR.out.2)
            have HH := hid (And.intro hh hcn)
            clear hL ht hh hcn
            cases xd with
            | true =>
              go_wp2_with (first | (go_at_call 19; with_reducible refine (HD.out).mono ?_; rintro e w2 ⟨v9, b9, T', rfl, hL, ht, hk, hR⟩; have HR := hid hR; have HLT := hid (And.intro hL (And.intro ht hk)); clear hL ht hk hR; refine Hid.out ?_))
              obtain ⟨hh, hcn⟩ := HH.out
              obtain ⟨hL, ht, hk⟩ := HLT.out
              rcases HR.out with ⟨_, _, _, hno⟩ | ⟨rfl, hhas, hh', hcn'⟩
              · exact absurd ((hh y z).2 HIN.out) (hno z)
              obtain rfl := HVL.out _ ((hh y v9).1 hhas)
              have hown := HQ2.out.owp hk
              obtain ⟨g', c', e1, hg, hcl', q0', q1'⟩ := hown.at j HJL.out
              obtain ⟨rfl, rfl⟩ : g = g' ∧ c = c' := by simpa using e1
              rw [HZ.out] at q1'
              have HBM := hid (HQ2.out.dropped hL ht hk hh hcn hh' hcn' HJL.out HYE.out)
              have HOW := hid hown
              have hsz := hLl
              have zz : (v9 == v9) = true := by simp
              have hgl : g < w2.heap.size := hg
              have e9 : (j : Int) + 1 ≤ (L.length : Int) := by omega
              have e8 : (L.length : Int) ≤ (c : Int) := by omega
              clear hhas hh hh' hcn hcn' hL ht hk hown e1 q0 q1 d0 d1 d2 q0' hg HR HD HP HLT HVL HIN HH hcl
              refine hid ?_
              go_wp2_with fail
              have hjl9 := HJL.out
              have ltk : (L.take j).length = j := by rw [List.length_take]; omega
              have ldk : (L.drop (j + 1)).length = L.length - (j + 1) := by rw [List.length_drop]
              have XA := hid (show ((w2.alloc (.cells #[] 51)).drew).heap[w2.heap.size]? = some (.cells #[] 51 (0, 0)) from heap_alloc_new w2 (.cells #[] 51))
              have BA := hid (show Below w2.heap.size w2 (w2.alloc (.cells #[] 51)).drew from btr (ball w2 (.cells #[] 51)) (below_drews (a := w2.alloc (.cells #[] 51)) rfl rfl rfl rfl))
              have HTK := hid (show ∀ W, Below w2.heap.size w2 W → KsR W (.slice (some ⟨g, 0, none⟩) j c) (L.take j) from fun W hb => (HOW.out.same (fun g c hg => hb.block g (row_lt hg))).cut (by omega))
              have s0 : (0 : Int) ≤ (j : Int) := by omega
              have s1 : (j : Int) ≤ (c : Int) := by omega
              have s2 : (j : Int) + 1 ≤ (c : Int) := by omega
              have s4 : (0 : Int) ≤ (j : Int) + 1 := by omega
              have s5 : ((j : Int) + 1).toNat = j + 1 := by omega
              have hll := hLl
              have wj2 : IntKind.i64.wrap ((j : Int) + 1) = (j : Int) + 1 := by simp [IntKind.wrap, IntKind.bits, IntKind.signed]; omega
              by_cases hcj : c = j + 1
              · have hle0 : L.length = j + 1 := by omega
                subst hcj
                have s6 : (j : Int) ≤ (j : Int) + 1 := by omega
                have HDR := hid (show ∀ (ad : Addr) (m c' : Nat), m = L.length - (j + 1) → ∀ W, KsR W (.slice (some ad) m c') (L.drop (j + 1)) from fun ad m c' hm W => Or.inr ⟨ad, c', by rw [ldk, hm], fun a y hy => by rw [List.drop_of_length_le (by omega)] at hy; simp [kvs] at hy⟩)
                have HL0 := hid hle0
                clear hle0
                go_region_law
                  (first
                  | (refine step_appK (by rfl) (.tmp 116) (.tmp 120) (by rfl) w2.heap.size _ (L.take j) (by rfl) HO4.out _ (L.drop (j + 1)) (by rfl) (HDR.out _ _ _ (by first | rfl | (have := HL0.out; omega)) _) (by rw [ltk, ldk]; omega) HB4.out.size _ rfl ?_; intro v5 w5 hown hap; obtain ⟨p5, c5, rfl, _⟩ := hown.form; have HB5 := hid (HBM.out _ _ (HB4.out.trans hap.1) hown); clear hown hap)
                  | (refine step_appK (by rfl) (.tmp 112) (.tmp 115) (by rfl) w2.heap.size _ [] (by rfl) (own_empty (Nat.le_refl _) XA.out) _ (L.take j) (by rfl) (HTK.out _ BA.out) (by rw [ltk]; simp; omega) BA.out.size (L.take j) (by simp) ?_; intro v4 w4 hown hap; have HO4 := hid hown; have HB4 := hid (BA.out.trans hap.1); clear hown hap))
                all_goals
                  go_wp2_with fail
                  go_roundw
                  case rel => exact ⟨j1, _, p5, c5, HJM.out.1, by congr 1; rw [List.length_append, ltk, ldk]; have := HL0.out; omega, rfl, HB5⟩
                  case measure => simpa [intOf] using HJM.out.2
              · have HDR := hid (show ∀ W, Below w2.heap.size w2 W → KsR W (.slice (some ⟨g, (j + 1) * 2, none⟩) (L.length - (j + 1)) (c - (j + 1))) (L.drop (j + 1)) from fun W hb => (HOW.out.same (fun g c hg => hb.block g (row_lt hg))).rest (by omega) _)
                go_region_law
                  (first
                  | (refine step_appK (by rfl) (.tmp 116) (.tmp 120) (by rfl) w2.heap.size _ (L.take j) (by rfl) HO4.out _ (L.drop (j + 1)) (by rfl) (HDR.out _ HB4.out) (by rw [ltk, ldk]; omega) HB4.out.size _ rfl ?_; intro v5 w5 hown hap; obtain ⟨p5, c5, rfl, _⟩ := hown.form; have HB5 := hid (HBM.out _ _ (HB4.out.trans hap.1) hown); clear hown hap)
                  | (refine step_appK (by rfl) (.tmp 112) (.tmp 115) (by rfl) w2.heap.size _ [] (by rfl) (own_empty (Nat.le_refl _) XA.out) _ (L.take j) (by rfl) (HTK.out _ BA.out) (by rw [ltk]; simp; omega) BA.out.size (L.take j) (by simp) ?_; intro v4 w4 hown hap; have HO4 := hid hown; have HB4 := hid (BA.out.trans hap.1); clear hown hap))
                all_goals
                  go_wp2_with fail
                  go_roundw
                  case rel => exact ⟨j1, _, p5, c5, HJM.out.1, by congr 1; rw [List.length_append, ltk, ldk], rfl, HB5⟩
                  case measure => simpa [intOf] using HJM.out.2
            | false =>
              have HLD := hid (show ∀ u, Bm w X P n room (.slice (some ⟨g, 0, none⟩) L.length c) L u → Calls Try.prog 20 #[.pointer (some ⟨X, 0, none⟩), .int .u64 y, .int .i64 xv] u fun e w' => e = .returned (.int .i64 81) ∧ Bm w X P n room (.slice (some ⟨g, 0, none⟩) L.length c) L w' from fun u hu => by
                obtain ⟨T, hL, ht, hh, hcn⟩ := hu.ex
                refine (put_any hL ht xv HKR.out.1 HKR.out.2).mono ?_
                rintro e w' ⟨c9, T', rfl, hL', ht', hk, hR⟩
                rcases hR with ⟨rfl, rfl, _⟩ | ⟨_, _, hno, _⟩ | ⟨_, hno, _⟩
                · exact ⟨rfl, hu.put hL' ht' hk hh hcn (hu.owp hk) hu.nd⟩
                · exact absurd ((hh y z).2 HIN.out) (hno z)
                · exact absurd ((hh y z).2 HIN.out) (hno z))
              have HQ3 := hid (HQ.out.step (Kp.drewN _ wr (nq + 1)))
              clear HD HP HH q0 q1
              go_wp2_with fail
              go_region_held3 (fun w' => w'.cell? ⟨b, off + i * 3 + 1, none⟩ = some (.int .u64 y) ∧ w'.cell? ⟨b, off + i * 3 + 2, none⟩ = some (.int .i64 xv)) (go_keep) (first | (go_at_call 20; with_reducible refine (HLD.out _ HQ3.out).mono ?_; rintro e w2 ⟨rfl, hB2⟩; have HB2 := hid hB2; obtain ⟨y0, y1, y2⟩ := HCL.out _ hB2.bel; clear hB2))
              go_wp2_with fail
              go_roundw
              case rel => exact ⟨j1, _, _, _, HJM.out.1, rfl, rfl, HB2⟩
              case measure => simpa [intOf] using HJM.out.2
          · have yy : (y == xk) = false := by simpa using hyx
            have hjf : j < fi L xk := by
              rcases Nat.lt_or_ge j (fi L xk) with h9 | h9
              · exact h9
              · have h8 : j = fi L xk := by omega
                exact absurd (hy.symm.trans (by have := fi_at (L := L) (k := xk) (by omega); simp only [← h8] at this; exact this)) hyx
            have wj3 : IntKind.i64.wrap ((j : Int) + 1) = ((j + 1 : Nat) : Int) := by simp [IntKind.wrap, IntKind.bits, IntKind.signed]; omega
            have HM3 := hid (show j + 1 ≤ fi L xk ∧ L.length - (j + 1) < L.length - j by omega)
            obtain ⟨j2, hj2⟩ : ∃ j2, j + 1 = j2 := ⟨_, rfl⟩
            rw [hj2] at wj3 HM3
            clear e1 q1 d0 d2 hg hj hjf hy hyx hfl hjl hj2
            go_wp2_with fail
            go_quiet (fail)
            go_wp2_with fail
            go_roundw
            case rel => exact ⟨j2, HM3.out.1, rfl, hid (HQ.out.step (Kp.drewN _ _ _))⟩
            case measure => simpa [intOf] using HM3.out.2
        · have hjf : fi L xk = L.length := by omega
          have hjL : j = L.length := by omega
          subst hjL
          have HNO := hid (fi_none (L := L) (k := xk) (by omega))
          have g1 : ¬ (L.length : Int) < (L.length : Int) := by omega
          have g3 : decide ((L.length : Int) < (L.length : Int)) = false := decide_eq_false g1
          obtain ⟨d0, d1, d2⟩ := HCL.out _ HQ.out.bel
          clear hj hjf hjl hfl
          go_wp2_with fail
          go_quiet (fail)
          have HQ2 := hid (HQ.out.step (Kp.drewN _ wr nq))
          cases xd with
          | true =>
            have HLD := hid (show Calls Try.prog 19 #[.pointer (some ⟨X, 0, none⟩), .int .u64 xk] (wr.drewN nq) fun e w' => e = .returned (.tuple #[.int .i64 0, .bool false]) ∧ Bm w X P n room (.slice p L.length c) L w' from by
              obtain ⟨T, hL, ht, hh, hcn⟩ := HQ2.out.ex
              refine (drop_any hL ht xk).mono ?_
              rintro e w' ⟨v9, b9, T', rfl, hL', ht', hk, hR⟩
              rcases hR with ⟨rfl, rfl, rfl, _⟩ | ⟨_, hhas, _⟩
              · exact ⟨rfl, HQ2.out.put hL' ht' hk hh hcn (HQ2.out.owp hk) HQ2.out.nd⟩
              · exact absurd ((hh xk v9).1 hhas) (HNO.out v9))
            go_wp2_with (first | (go_at_call 19; with_reducible refine (HLD.out).mono ?_; rintro e w2 ⟨rfl, hB2⟩; have HB2 := hid hB2; clear hB2; refine Hid.out ?_))
            refine hid ?_
            go_wp2_with fail
            go_roundw
            case rel => exact ⟨j1, _, _, _, HJM.out.1, rfl, rfl, HB2⟩
            case measure => simpa [intOf] using HJM.out.2
          | false =>
            have HQ3 := hid (HQ.out.step (Kp.drewN _ wr (nq + 1)))
            by_cases hfull : L.length = room
            · have lr : ((L.length : Int) == (room : Int)) = true := by simp; omega
              have HLD := hid (show ∀ u, Bm w X P n room (.slice p L.length c) L u → Calls Try.prog 20 #[.pointer (some ⟨X, 0, none⟩), .int .u64 xk, .int .i64 xv] u fun e w' => e = .returned (.int .i64 80) ∧ Bm w X P n room (.slice p L.length c) L w' from fun u hu => by
                obtain ⟨T, hL, ht, hh, hcn⟩ := hu.ex
                refine (put_any hL ht xv HKR.out.1 HKR.out.2).mono ?_
                rintro e w' ⟨c9, T', rfl, hL', ht', hk, hR⟩
                rcases hR with ⟨_, _, u9, h9⟩ | ⟨rfl, rfl, _, _⟩ | ⟨_, _, hlt, _⟩
                · exact absurd ((hh xk u9).1 h9) (HNO.out u9)
                · exact ⟨rfl, hu.put hL' ht' hk hh hcn (hu.owp hk) hu.nd⟩
                · omega)
              have hn1 : ¬ L.length < room := by omega
              have hn2 : decide ((L.length : Int) < (room : Int)) = false := decide_eq_false (by omega)
              clear hfull
              go_wp2_with fail
              go_region_held3 (fun w' => w'.cell? ⟨b, off + i * 3 + 1, none⟩ = some (.int .u64 xk) ∧ w'.cell? ⟨b, off + i * 3 + 2, none⟩ = some (.int .i64 xv)) (go_keep) (first | (go_at_call 20; with_reducible refine (HLD.out _ HQ3.out).mono ?_; rintro e w2 ⟨rfl, hB2⟩; have HB2 := hid hB2; obtain ⟨y0, y1, y2⟩ := HCL.out _ hB2.bel; clear hB2))
              go_wp2_with fail
              go_roundw
              case rel => exact ⟨j1, _, _, _, HJM.out.1, rfl, rfl, HB2⟩
              case measure => simpa [intOf] using HJM.out.2
            · have lr : ((L.length : Int) == (room : Int)) = false := by simp; omega
              have hlr : (L.length : Int) < (room : Int) := by have := HQ2.out.len.1; omega
              have HLD := hid (show ∀ u, Bm w X P n room (.slice p L.length c) L u → Calls Try.prog 20 #[.pointer (some ⟨X, 0, none⟩), .int .u64 xk, .int .i64 xv] u fun e w' => e = .returned (.int .i64 0) ∧ OwK w.heap.size w' (.slice p L.length c) L ∧ Below w.heap.size w w' ∧ ∀ w3 w5 v', Below w'.heap.size w' w3 → Ap w.heap.size (.slice p L.length c) w3 w5 → OwK w.heap.size w5 v' (L ++ [(xk, xv)]) → Bm w X P n room v' (L ++ [(xk, xv)]) w5 from fun u hu => by
                obtain ⟨T, hL, ht, hh, hcn⟩ := hu.ex
                refine (put_any hL ht xv HKR.out.1 HKR.out.2).mono ?_
                rintro e w' ⟨c9, T', rfl, hL', ht', hk, hR⟩
                rcases hR with ⟨_, _, u9, h9⟩ | ⟨_, _, _, h9⟩ | ⟨rfl, hno, _, hh', hcn'⟩
                · exact absurd ((hh xk u9).1 h9) (HNO.out u9)
                · omega
                · exact ⟨rfl, hu.owp hk, hu.bel.trans (hk.below hu.bel.size (fun g hg => by have := hu.ltX; have := hu.ltP; omega)), hu.laid hL' ht' hk hh hcn hh' hcn' hno⟩)
              clear hfull
              go_wp2_with fail
              go_region_held3 (fun w' => w'.cell? ⟨b, off + i * 3 + 1, none⟩ = some (.int .u64 xk) ∧ w'.cell? ⟨b, off + i * 3 + 2, none⟩ = some (.int .i64 xv)) (go_keep) (first | (go_at_call 20; with_reducible refine (HLD.out _ HQ3.out).mono ?_; rintro e w2 ⟨rfl, hO2, hB2, hM2⟩; have HO2 := hid hO2; have HB2 := hid hB2; have HMM := hid hM2; obtain ⟨y0, y1, y2⟩ := HCL.out _ hB2; clear hB2 hO2 hM2))
              go_wp2_with fail
              have BB := hid (show Below w2.heap.size w2 (w2.alloc (.cells #[.int .u64 xk, .int .i64 xv] 51)).drew from btr (ball w2 (.cells #[.int .u64 xk, .int .i64 xv] 51)) (below_drews (a := w2.alloc (.cells #[.int .u64 xk, .int .i64 xv] 51)) rfl rfl rfl rfl))
              have XB := hid (show ((w2.alloc (.cells #[.int .u64 xk, .int .i64 xv] 51)).drew).heap[w2.heap.size]? = some (.cells #[.int .u64 xk, .int .i64 xv] 51 (0, 0)) from heap_alloc_new w2 (.cells #[.int .u64 xk, .int .i64 xv] 51))
              have HOB := hid (HO2.out.same (fun g c hg => BB.out.block g (row_lt hg)))
              have hsz9 : w.heap.size ≤ (w2.alloc (.cells #[.int .u64 xk, .int .i64 xv] 51)).drew.heap.size := Nat.le_trans HB2.out.size BB.out.size
              go_region_law
                (first
                | (refine step_appK (by rfl) (.tmp 167) (.tmp 179) (by rfl) w.heap.size _ L (by rfl) HOB.out _ [(xk, xv)] (by rfl) (ksr_one XB.out) (by simp; omega) hsz9 _ rfl ?_; intro v5 w5 hown hap; obtain ⟨p5, c5, rfl, _⟩ := hown.form; have HB5 := hid (HMM.out _ _ _ BB.out hap hown); clear hown hap))
              all_goals
                go_wp2_with fail
                go_roundw
                case rel => exact ⟨j1, _, p5, c5, HJM.out.1, by simp, rfl, HB5⟩
                case measure => simpa [intOf] using HJM.out.2
    · have hil : i = l.length := by omega
      clear hi
      subst hil
      have f1 : ¬ (l.length : Int) < (l.length : Int) := by omega
      have HGT := hid (show ∀ u y z, Bm w X P n room (.slice p L.length c) L u → (y, z) ∈ L → Calls Try.prog 21 #[.pointer (some ⟨X, 0, none⟩), .int .u64 y] u fun e w' => e = .returned (.tuple #[.int .i64 z, .bool true]) ∧ Bm w X P n room (.slice p L.length c) L w' from fun u y z hu hm9 => by
        obtain ⟨T, hL, ht, hh, hcn⟩ := hu.ex
        refine (get_map hL ht y).mono ?_
        rintro e w' ⟨v9, b9, rfl, hk, hR⟩
        rcases hR with ⟨_, _, hno⟩ | ⟨rfl, hhas⟩
        · exact absurd ((hh y z).2 hm9) (hno z)
        · obtain rfl := Ix.Has.one ht hhas ((hh y z).2 hm9)
          exact ⟨rfl, hu.step hk⟩)
      have HGN := hid (show ∀ u y, Bm w X P n room (.slice p L.length c) L u → (∀ z, (y, z) ∉ L) → Calls Try.prog 21 #[.pointer (some ⟨X, 0, none⟩), .int .u64 y] u fun e w' => e = .returned (.tuple #[.int .i64 0, .bool false]) ∧ Bm w X P n room (.slice p L.length c) L w' from fun u y hu hm9 => by
        obtain ⟨T, hL, ht, hh, hcn⟩ := hu.ex
        refine (get_map hL ht y).mono ?_
        rintro e w' ⟨v9, b9, rfl, hk, hR⟩
        rcases hR with ⟨rfl, rfl, hno⟩ | ⟨rfl, hhas⟩
        · exact ⟨rfl, hu.step hk⟩
        · exact absurd ((hh y v9).1 hhas) (hm9 v9))
      have hLl := HI.out.len.2
      clear hin HV HBD
      go_wp2_with fail
      go_loopw [16] (fun iv wq => ∃ j : Nat, j ≤ L.length ∧ iv = .int .i64 j ∧ Hid (Bm w X P n room (.slice p L.length c) L wq)) (fun iv _ => L.length - (intOf iv).toNat)
      case atStart => exact ⟨0, Nat.zero_le _, rfl, HI⟩
      case round =>
        obtain ⟨j, hj, rfl, HQ⟩ := hrel
        clear HI
        by_cases hjl : j < L.length
        · obtain ⟨g, c', e1, hg, hcl, q0, q1⟩ := HQ.out.ow.at j hjl
          obtain ⟨rfl, rfl⟩ : p = some ⟨g, 0, none⟩ ∧ c = c' := by simpa using e1
          have g1 : (j : Int) < (L.length : Int) := by omega
          have g2 : (0 : Int) ≤ (j : Int) := by omega
          have ct2 : ((j : Int)).toNat = j := by omega
          have hin9 := List.getElem_mem hjl
          obtain ⟨y, hy⟩ : ∃ y, L[j].1 = y := ⟨_, rfl⟩
          obtain ⟨z, hz⟩ : ∃ z, L[j].2 = z := ⟨_, rfl⟩
          replace hin9 : (y, z) ∈ L := by rw [← hy, ← hz]; exact hin9
          rw [hy] at q0
          rw [hz] at q1
          have HY9 := hid hy
          have HZ9 := hid hz
          have HJL := hid hjl
          have HG := hid (HGT.out wr y z HQ.out hin9)
          have zz : (z == z) = true := by simp
          have wj3 : IntKind.i64.wrap ((j : Int) + 1) = ((j + 1 : Nat) : Int) := by simp [IntKind.wrap, IntKind.bits, IntKind.signed]; omega
          have HM3 := hid (show j + 1 ≤ L.length ∧ L.length - (j + 1) < L.length - j by omega)
          obtain ⟨j2, hj2⟩ : ∃ j2, j + 1 = j2 := ⟨_, rfl⟩
          rw [hj2] at wj3 HM3
          clear e1 hg hj hin9 hj2 hy hz
          go_wp2_with (first | (go_at_call 21; with_reducible refine (HG.out).mono ?_; rintro e w2 ⟨rfl, hB2⟩; have HB2 := hid hB2; clear hB2; refine Hid.out ?_))
          obtain ⟨g', c', e1, hg, hcl', q0, q1⟩ := HB2.out.ow.at j HJL.out
          obtain ⟨rfl, rfl⟩ : g = g' ∧ c = c' := by simpa using e1
          have k0 : L[j].1 = y := HY9.out
          have k1 : L[j].2 = z := HZ9.out
          rw [show (L[j]'(HJL.out)).1 = y from HY9.out] at q0
          rw [show (L[j]'(HJL.out)).2 = z from HZ9.out] at q1
          clear k0 k1
          clear e1 hg
          refine hid ?_
          go_wp2_with fail
          go_roundw
          case rel => exact ⟨j2, HM3.out.1, rfl, HB2⟩
          case measure => simpa [intOf] using HM3.out.2
        · have hjL : j = L.length := by omega
          subst hjL
          have g1 : ¬ (L.length : Int) < (L.length : Int) := by omega
          have hm2 := HM2.out
          clear hj hjl
          go_wp2_with fail
          go_loopw [19] (fun iv wq => ∃ a : Nat, a ≤ l2.length ∧ iv = .int .i64 a ∧ Hid (Bm w X P n room (.slice p L.length c) L wq)) (fun iv _ => l2.length - (intOf iv).toNat)
          case atStart => exact ⟨0, Nat.zero_le _, rfl, HQ⟩
          case round =>
            obtain ⟨a, ha, rfl, HA⟩ := hrel
            clear HQ
            by_cases hal : a < l2.length
            · obtain ⟨b, off, rfl, hbl, x0⟩ := (HV2.out.on HA.out.bel) a hal
              obtain ⟨y, hy⟩ : ∃ y, l2[a] = y := ⟨_, rfl⟩
              rw [hy] at x0
              have HCL := hid (show ∀ u, Below w.heap.size w u → u.cell? ⟨b, off + a, none⟩ = some (.int .u64 y) from fun u hu => by
                obtain ⟨b', off', e', _, y0⟩ := (HV2.out.on hu) a hal
                cases e'
                rw [hy] at y0
                exact y0)
              have g4 : (a : Int) < (l2.length : Int) := by omega
              have g5 : (0 : Int) ≤ (a : Int) := by omega
              have ct3 : ((a : Int)).toNat = a := by omega
              have wj4 : IntKind.i64.wrap ((a : Int) + 1) = ((a + 1 : Nat) : Int) := by simp [IntKind.wrap, IntKind.bits, IntKind.signed]; omega
              have HM4 := hid (show a + 1 ≤ l2.length ∧ l2.length - (a + 1) < l2.length - a by omega)
              obtain ⟨a2, ha2⟩ : ∃ a2, a + 1 = a2 := ⟨_, rfl⟩
              rw [ha2] at wj4 HM4
              clear ha hal hy ha2 x0 hbl
              go_wp2_with fail
              go_loopw [20, 21] (fun bv kv wq => ∃ j : Nat, j ≤ L.length ∧ bv = .bool ((L.take j).any (fun x => x.1 == y)) ∧ kv = .int .i64 j ∧ Hid (Bm w X P n room (.slice p L.length c) L wq)) (fun _ kv _ => L.length - (intOf kv).toNat)
              case atStart => exact ⟨0, Nat.zero_le _, by simp, rfl, HA⟩
              case round =>
                obtain ⟨j, hj, rfl, rfl, HJ⟩ := hrel
                clear HA
                by_cases hjl : j < L.length
                · obtain ⟨g, c', e1, hg, hcl, q0, q1⟩ := HJ.out.ow.at j hjl
                  obtain ⟨rfl, rfl⟩ : p = some ⟨g, 0, none⟩ ∧ c = c' := by simpa using e1
                  have x1 := HCL.out _ HJ.out.bel
                  have g6 : (j : Int) < (L.length : Int) := by omega
                  have g7 : (0 : Int) ≤ (j : Int) := by omega
                  have ct4 : ((j : Int)).toNat = j := by omega
                  have wj5 : IntKind.i64.wrap ((j : Int) + 1) = ((j + 1 : Nat) : Int) := by simp [IntKind.wrap, IntKind.bits, IntKind.signed]; omega
                  have HM5 := hid (show j + 1 ≤ L.length ∧ L.length - (j + 1) < L.length - j by omega)
                  have HAN := hid (show (L.take (j + 1)).any (fun x => x.1 == y) = ((L.take j).any (fun x => x.1 == y) || L[j].1 == y) from by
                    rw [List.take_add_one, List.getElem?_eq_getElem hjl, Option.toList_some, List.any_append]; simp)
                  obtain ⟨y2, hy2⟩ : ∃ y, L[j].1 = y := ⟨_, rfl⟩
                  rw [hy2] at q0 HAN
                  obtain ⟨j2, hj2⟩ : ∃ j2, j + 1 = j2 := ⟨_, rfl⟩
                  rw [hj2] at wj5 HM5 HAN
                  clear e1 hg hj hjl hj2 hy2 q1
                  cases hany : (L.take j).any (fun x => x.1 == y) with
                  | true =>
                    have HAN2 := hid (show (L.take j2).any (fun x => x.1 == y) = true from by rw [HAN.out, hany]; rfl)
                    clear hany
                    go_wp2_with fail
                    go_quiet (fail)
                    go_wp2_with fail
                    go_roundw
                    case rel => exact ⟨j2, HM5.out.1, by rw [HAN2.out], rfl, hid (HJ.out.step (Kp.drewN _ _ _))⟩
                    case measure => simpa [intOf] using HM5.out.2
                  | false =>
                    cases he : (y2 == y) with
                    | true =>
                      have HAN2 := hid (show (L.take j2).any (fun x => x.1 == y) = true from by rw [HAN.out, hany, he]; rfl)
                      clear hany
                      go_wp2_with fail
                      go_quiet (fail)
                      go_wp2_with fail
                      go_roundw
                      case rel => exact ⟨j2, HM5.out.1, by rw [HAN2.out], rfl, hid (HJ.out.step (Kp.drewN _ _ _))⟩
                      case measure => simpa [intOf] using HM5.out.2
                    | false =>
                      have HAN2 := hid (show (L.take j2).any (fun x => x.1 == y) = false from by rw [HAN.out, hany, he]; rfl)
                      clear hany
                      go_wp2_with fail
                      go_quiet (fail)
                      go_wp2_with fail
                      go_roundw
                      case rel => exact ⟨j2, HM5.out.1, by rw [HAN2.out], rfl, hid (HJ.out.step (Kp.drewN _ _ _))⟩
                      case measure => simpa [intOf] using HM5.out.2
                · have hjL : j = L.length := by omega
                  subst hjL
                  rw [List.take_length]
                  have x1 := HCL.out _ HJ.out.bel
                  clear hj hjl
                  cases hany : L.any (fun x => x.1 == y) with
                  | true =>
                    obtain ⟨⟨y', z⟩, hm9, he⟩ := List.any_eq_true.1 hany
                    obtain rfl : y' = y := by simpa using he
                    have HG := hid (HGT.out wr y' z HJ.out hm9)
                    clear hany hm9 he
                    go_wp2_with (first | (go_at_call 21; with_reducible refine (HG.out).mono ?_; rintro e w2 ⟨rfl, hB2⟩; have HB2 := hid hB2; clear hB2; refine Hid.out ?_))
                    refine hid ?_
                    go_wp2_with fail
                    go_roundw
                    case rel => exact ⟨a2, HM4.out.1, rfl, HB2⟩
                    case measure => simpa [intOf] using HM4.out.2
                  | false =>
                    have HG := hid (HGN.out wr y HJ.out (fun z hm9 => by
                      have : L.any (fun x => x.1 == y) = true := List.any_eq_true.2 ⟨_, hm9, by simp⟩
                      rw [hany] at this; cases this))
                    clear hany
                    go_wp2_with (first | (go_at_call 21; with_reducible refine (HG.out).mono ?_; rintro e w2 ⟨rfl, hB2⟩; have HB2 := hid hB2; clear hB2; refine Hid.out ?_))
                    refine hid ?_
                    go_wp2_with fail
                    go_roundw
                    case rel => exact ⟨a2, HM4.out.1, rfl, HB2⟩
                    case measure => simpa [intOf] using HM4.out.2
            · have hal2 : a = l2.length := by omega
              subst hal2
              have g4 : ¬ (l2.length : Int) < (l2.length : Int) := by omega
              have HLN := hid (show Calls Try.prog 11 #[.pointer (some ⟨X, 0, none⟩)] wr fun e w' => e = .returned (.int .i64 (L.length : Nat)) ∧ w' = wr from by
                obtain ⟨T, hL, ht, hh, hcn⟩ := HA.out.ex
                rw [hcn]; exact len_any hL)
              have HLV := hid (lives_any wr)
              have ll : ((L.length : Int) == (L.length : Int)) = true := by simp
              clear ha hal
              go_wp2_with (first | (go_at_call 11; with_reducible refine (HLN.out).mono ?_; rintro e w9 ⟨rfl, h9⟩; subst w9) | (go_at_call 18; with_reducible refine (HLV.out).mono ?_; rintro e w9 ⟨rfl, hb9⟩; have HB9 := hid hb9; clear hb9; refine Hid.out ?_))
              refine hid ?_
              go_wp2_with fail
              go_ret
              exact ⟨rfl, HA.out.bel.trans (HB9.out.mono HA.out.bel.size)⟩
end Go.Proofs.Ythidnipmkffilaa
