/-
  The law of the sound book is walked. Written by mksw.py.
-/
import Derived.Test.YtfgcfiejkjhebaaRuSv
namespace Go.Proofs.Ytfgcfiejkjhebaa
open Go.RowKit Go.Deep Go.Shelf
set_option linter.unusedVariables false
set_option linter.unusedSimpArgs false
set_option maxHeartbeats 16000000
set_option maxRecDepth 100000
attribute [local go_sem ↓] Go.wp_at_zero Go.wp_at_succ
theorem sound_walk (cap meet : Int) (q : Option Addr) (lc : Nat) (l : List Cm) (W : World) (hl : Cmz W q l) (hok : ∀ c ∈ l, CmOk c) (hn : l.length ≤ maxLen) :
    Calls Try.prog 3 #[.agg #[.int .i64 cap, .int .i64 meet], .slice q l.length lc] W fun e w' => e = .returned (.bool true) ∧ Below W.heap.size W w' := by
  have CB := hid (fun U => begun_any cap meet U)
  have HCF := hid (show ∀ b, Fr b cap meet → cfg cap meet = true → Snd b from fun b h k => h.snd k)
  obtain ⟨v, hv⟩ : ∃ v, cfg cap meet = v := ⟨_, rfl⟩
  rw [hv] at CB HCF
  clear hv
  obtain ⟨n, hnn⟩ : ∃ n, l.length = n := ⟨_, rfl⟩
  have HN := hid hnn
  rw [hnn] at hn ⊢
  clear hnn
  have hn' : n < 9223372036854775808 := by unfold maxLen at hn; omega
  have HL := hid hl
  have HOK := hid hok
  have HB := hid (ball W (.cells #[.int .i64 cap, .int .i64 meet] 23))
  have hr := World.alloc_heap_new W (.cells #[.int .i64 cap, .int .i64 meet] 23)
  obtain ⟨W1, hW⟩ : ∃ W1, W.alloc (.cells #[.int .i64 cap, .int .i64 meet] 23) = W1 := ⟨_, rfl⟩
  rw [hW] at HB hr
  have HW := hid hW
  have HP0 := hid (show ∀ U, Below W1.heap.size W1 U → U.cell? ⟨W.heap.size, 0, none⟩ = some (.int .i64 cap) from fun U hU => by
    have c0 := row_cell (row_on hr hU) 0
    simp only [List.getElem?_toArray, List.getElem?_cons_succ, List.getElem?_cons_zero] at c0
    exact c0)
  have c0 := row_cell hr 0
  have c1 := row_cell hr 1
  simp only [List.getElem?_toArray, List.getElem?_cons_succ, List.getElem?_cons_zero] at c0 c1
  clear hr hW hl hok
  cases v with
  | false =>
    have CB2 := hid ((CB.out W1).mono (R' := fun e w' => e = .returned (.tuple #[.pointer none, .bool true]) ∧ Below W1.heap.size W1 w') (by
      rintro e w' (⟨_, h1, h2⟩ | ⟨h, _⟩)
      · exact ⟨h1, h2⟩
      · cases h))
    go_enter Try.func3, Try.ntmps3
    go_upto_region 1 with fail
    have e0 := HW.out
    rw [e0]
    clear e0
    go_wp2_with (go_at_call 6; with_reducible refine (CB2.out).mono ?_; rintro e w1 ⟨rfl, hb1⟩; have HB1 := hid hb1; clear hb1)
    go_ret
    exact ⟨rfl, btr HB.out HB1.out⟩
  | true =>
    have CB2 := hid ((CB.out W1).mono (R' := fun e w' => ∃ B b, e = .returned (.tuple #[.pointer (some ⟨B, 0, none⟩), .bool true]) ∧ Pl W1 B b w' ∧ Snd b ∧ b.cap = cap) (by
      rintro e w' (⟨h, _⟩ | ⟨_, B, b, h1, h2, h3⟩)
      · cases h
      · exact ⟨B, b, h1, h2, HCF.out b h3 rfl, h3.num.1⟩))
    go_enter Try.func3, Try.ntmps3
    go_upto_region 1 with fail
    have e0 := HW.out
    rw [e0]
    clear e0
    go_wp2_with (go_at_call 6; with_reducible refine (CB2.out).mono ?_; rintro e w1 ⟨B, b0, rfl, h1, hs0, hh0⟩; have H1 := hid h1; have HS0 := hid hs0; have HH0 := hid hh0; clear h1 hs0 hh0)
    clear c0 c1
    go_loopw [7] (fun iv wr => ∃ (i : Nat) (b : Bs), i ≤ n ∧ iv = .int .i64 i ∧ Hid (Pl W1 B b wr) ∧ Hid (Snd b) ∧ Hid (b.cap = cap)) (fun iv _ => n - (intOf iv).toNat)
    case atStart => exact ⟨0, b0, Nat.zero_le _, rfl, H1, HS0, HH0⟩
    case round =>
      obtain ⟨i, b, hin, rfl, HP, HSN, HCP⟩ := hrel
      by_cases hlt : i < n
      · have hil : i < l.length := by rw [HN.out]; exact hlt
        have hck := HOK.out l[i] (List.getElem_mem hil)
        obtain ⟨qb, qo, hq, a0, a1, a2, a3, a4, a5, a6, a7, a8⟩ := cmz_cells HL.out (btr HB.out HP.out.be) hil
        obtain ⟨c, hc⟩ : ∃ c, l[i] = c := ⟨_, rfl⟩
        rw [hc] at hck a0 a1 a2 a3 a4 a5 a6 a7 a8
        clear hc
        subst hq
        have CD := hid (show Calls Try.prog 7 #[.pointer (some ⟨B, 0, none⟩), .agg (cmr c)] wr fun e w' => ∃ b' p q m, e = .returned (.slice p m q) ∧ Pl W1 B b' w' ∧ Snd b' ∧ b'.cap = cap from by
          refine (pl_do c HP.out hck).mono ?_
          rintro e w' ⟨b', p, q, es', h1, h2, h3, h4⟩
          exact ⟨b', p, q, es'.length, h1, h2, h4.snd HP.out.gb HSN.out hck, (h4.good HP.out.gb hck).2.1.trans HCP.out⟩)
        unfold cmr at CD
        clear hck
        have i0' : (0 : Int) ≤ (i : Int) := by omega
        have i1 : (i : Int) < (n : Int) := by omega
        go_upto_region 8 with (go_at_call 7; with_reducible refine (CD.out).mono ?_; rintro e w2 ⟨b', p2, q2, m, rfl, h2, hs2, hc2⟩; have H2 := hid h2; have HS2 := hid hs2; have HC2 := hid hc2; clear h2 hs2 hc2)
        clear a0 a1 a2 a3 a4 a5 a6 a7 a8 CD
        have CK := hid (book_any B b' w2 H2.out.bm H2.out.gb.vb.len)
        unfold bkv at CK
        go_upto_region 9 with (go_at_call 8; with_reducible refine (CK.out).mono ?_; rintro e w3 ⟨v1, v2, rfl, ho1, ho2, hb3⟩; obtain ⟨x1, y1, rfl⟩ := own_form ho1; obtain ⟨x2, y2, rfl⟩ := own_form ho2; have HB3 := hid hb3; have HO1 := hid ho1; have HO2 := hid ho2; clear ho1 ho2 hb3)
        clear CK
        obtain ⟨X, hX⟩ : ∃ X, w3.heap.size = X := ⟨_, rfl⟩
        obtain ⟨V, hV⟩ : ∃ V, w3.alloc (.cells #[.int .i64 b'.cap, .int .i64 b'.meet, .slice x1 b'.l1.length y1, .slice x2 b'.l2.length y2, .int .u64 b'.high, .int .u64 b'.seq] 36) = V := ⟨_, rfl⟩
        have hbV : Below w3.heap.size w3 V := by rw [← hV]; exact ball _ _
        have hrV : V.heap[X]? = some (.cells #[.int .i64 b'.cap, .int .i64 b'.meet, .slice x1 b'.l1.length y1, .slice x2 b'.l2.length y2, .int .u64 b'.high, .int .u64 b'.seq] 36 (0, 0)) := by rw [← hV, ← hX]; exact World.alloc_heap_new _ _
        rw [hV, hX]
        have HPV := hid (H2.out.on (btr HB3.out hbV))
        have HO1V := hid (own_on HO1.out hbV)
        have HO2V := hid (own_on HO2.out hbV)
        have HGB := hid H2.out.gb
        clear hV hX hbV HB3 HO1 HO2 H2
        have CL := hid (fun (U : World) (hU : Below V.heap.size V U) => (show Calls Try.prog 9 #[.pointer (some ⟨B, 0, none⟩)] U fun e w' => e = .returned (.int .i64 ((b'.l1.length : Int) + b'.l2.length)) ∧ Below U.heap.size U w' from by
          refine (len_any B b' U (HPV.out.on hU).bm HGB.out.vb.len).mono ?_
          rintro e w' ⟨rfl, k, rfl⟩
          exact ⟨rfl, bdrew _ _⟩))
        have CV := hid (fun (U : World) (hU : Below V.heap.size V U) => valid_told HGB.out HS2.out (own_on HO1V.out hU) (own_on HO2V.out hU))
        have HS := hid (fun (U : World) (hU : Below V.heap.size V U) => show ((U).cell? ⟨X, 0, none⟩ = some (.int .i64 b'.cap) ∧ (U).cell? ⟨X, 1, none⟩ = some (.int .i64 b'.meet) ∧ (U).cell? ⟨X, 2, none⟩ = some (.slice x1 b'.l1.length y1) ∧ (U).cell? ⟨X, 3, none⟩ = some (.slice x2 b'.l2.length y2) ∧ (U).cell? ⟨X, 4, none⟩ = some (.int .u64 b'.high) ∧ (U).cell? ⟨X, 5, none⟩ = some (.int .u64 b'.seq) ∧ (U).cell? ⟨W.heap.size, 0, none⟩ = some (.int .i64 cap)) from by
          have h := row_on hrV hU
          have d0 := row_cell h 0
          have d1 := row_cell h 1
          have d2 := row_cell h 2
          have d3 := row_cell h 3
          have d4 := row_cell h 4
          have d5 := row_cell h 5
          simp only [List.getElem?_toArray, List.getElem?_cons_succ, List.getElem?_cons_zero] at d0 d1 d2 d3 d4 d5
          exact ⟨d0, d1, d2, d3, d4, d5, HP0.out U (btr HPV.out.be hU)⟩)
        have hlen := HGB.out.len
        have hcapm := HGB.out.cap
        rw [HC2.out] at hlen hcapm
        unfold lns at hlen
        have HPR1 := hid (fun (j k : Nat) (hj : k + 1 = j) (hjn : j < b'.l1.length) (U : World) (hU : Below V.heap.size V U) => show ∃ g u v, x1 = some ⟨g, 0, none⟩ ∧ U.cell? ⟨g, j * 7 + 3, none⟩ = some (.int .i64 u) ∧ U.cell? ⟨g, k * 7 + 3, none⟩ = some (.int .i64 v) ∧ ¬ v < u from by
          have e1 : (osl b'.l1).length = b'.l1.length := by simp [osl]
          obtain ⟨g, hg, _, ca⟩ := pr_cells (own_on HO1V.out hU) e1 hjn
          obtain ⟨g', hg', _, cb⟩ := pr_cells (own_on HO1V.out hU) e1 (show k < b'.l1.length by omega)
          obtain rfl : g = g' := by rw [hg] at hg'; injection hg' with hg'; injection hg'
          refine ⟨g, _, _, hg, ca, cb, ?_⟩
          have := HGB.out.vb.srt 1 (.inl rfl) k j (by show k < b'.l1.length; omega) hjn (by omega)
          simp only [osl, List.getElem_map]
          simp [btt] at this
          have e : b'.sl 1 = b'.l1 := rfl
          simp only [e] at this
          omega)
        have HPR2 := hid (fun (j k : Nat) (hj : k + 1 = j) (hjn : j < b'.l2.length) (U : World) (hU : Below V.heap.size V U) => show ∃ g u v, x2 = some ⟨g, 0, none⟩ ∧ U.cell? ⟨g, j * 7 + 3, none⟩ = some (.int .i64 u) ∧ U.cell? ⟨g, k * 7 + 3, none⟩ = some (.int .i64 v) ∧ ¬ u < v from by
          have e1 : (osl b'.l2).length = b'.l2.length := by simp [osl]
          obtain ⟨g, hg, _, ca⟩ := pr_cells (own_on HO2V.out hU) e1 hjn
          obtain ⟨g', hg', _, cb⟩ := pr_cells (own_on HO2V.out hU) e1 (show k < b'.l2.length by omega)
          obtain rfl : g = g' := by rw [hg] at hg'; injection hg' with hg'; injection hg'
          refine ⟨g, _, _, hg, ca, cb, ?_⟩
          have := HGB.out.vb.srt 2 (.inr rfl) k j (by show k < b'.l2.length; omega) hjn (by omega)
          simp only [osl, List.getElem_map]
          simp [btt] at this
          have e : b'.sl 2 = b'.l2 := rfl
          simp only [e] at this
          omega)
        have HPX := hid (fun (h1 : 0 < b'.l1.length) (h2 : 0 < b'.l2.length) (U : World) (hU : Below V.heap.size V U) => show ∃ g g' u v, x1 = some ⟨g, 0, none⟩ ∧ x2 = some ⟨g', 0, none⟩ ∧ U.cell? ⟨g, 3, none⟩ = some (.int .i64 u) ∧ U.cell? ⟨g', 3, none⟩ = some (.int .i64 v) ∧ ¬ v ≤ u from by
          have e1 : (osl b'.l1).length = b'.l1.length := by simp [osl]
          have e2 : (osl b'.l2).length = b'.l2.length := by simp [osl]
          obtain ⟨g, hg, _, ca⟩ := pr_cells (own_on HO1V.out hU) e1 h1
          obtain ⟨g', hg', _, cb⟩ := pr_cells (own_on HO2V.out hU) e2 h2
          refine ⟨g, g', _, _, hg, hg', by simpa using ca, by simpa using cb, ?_⟩
          have := HS2.out.ap (b'.l1[0]) (List.getElem_mem h1) (b'.l2[0]) (List.getElem_mem h2)
          simp only [osl, List.getElem_map]
          omega)
        obtain ⟨n1, hn1⟩ : ∃ n1, b'.l1.length = n1 := ⟨_, rfl⟩
        obtain ⟨n2, hn2⟩ : ∃ n2, b'.l2.length = n2 := ⟨_, rfl⟩
        unfold bkv at CV
        rw [hn1] at CL CV HS HPR1 HPX hlen
        rw [hn2] at CL CV HS HPR2 HPX hlen
        clear hrV HO1V HO2V HGB hn1 hn2
        have ws : IntKind.i64.wrap ((n1 : Int) + (n2 : Int)) = (n1 : Int) + (n2 : Int) := by rw [IntKind.wrap_i64]; omega
        have hfn : ¬ cap < (n1 : Int) + (n2 : Int) := by omega
        have hfd : decide (cap < (n1 : Int) + (n2 : Int)) = false := decide_eq_false hfn
        have HBD := hid (bdrew1 V)
        refine wp_region_held_drew (S := (fun U => ((U).cell? ⟨X, 0, none⟩ = some (.int .i64 b'.cap) ∧ (U).cell? ⟨X, 1, none⟩ = some (.int .i64 b'.meet) ∧ (U).cell? ⟨X, 2, none⟩ = some (.slice x1 n1 y1) ∧ (U).cell? ⟨X, 3, none⟩ = some (.slice x2 n2 y2) ∧ (U).cell? ⟨X, 4, none⟩ = some (.int .u64 b'.high) ∧ (U).cell? ⟨X, 5, none⟩ = some (.int .u64 b'.seq) ∧ (U).cell? ⟨W.heap.size, 0, none⟩ = some (.int .i64 cap)))) (by kernel_rfl) ?_ (fun hHeld => ?_)
        · (try dsimp only); (exact HS.out _ HBD.out)
        refine' wpAnyH_take (i := 0) (oi := _) (v := _) rfl (by kernel_rfl) (by kernel_rfl) (by kernel_rfl) (fun _ _ _ h => h) (Or.inl ⟨by kernel_rfl, ?hyq1⟩) (by assumption) ?restq1
        case hyq1 => (intro w hSw; (try dsimp only at hSw); go_simp; try (with_reducible rfl))
        try simp only [List.getElem_toArray, List.getElem_cons_succ, List.getElem_cons_zero, Act.put, List.setIfInBounds_toArray, List.set_cons_zero, List.set_cons_succ]
        refine' wpAnyH_take (i := 1) (oi := _) (v := _) rfl (by kernel_rfl) (by kernel_rfl) (by kernel_rfl) (fun _ _ _ h => h) (Or.inl ⟨by kernel_rfl, ?hyq2⟩) (by assumption) ?restq2
        case hyq2 => (intro w hSw; (try dsimp only at hSw); go_simp; try (with_reducible rfl))
        try simp only [List.getElem_toArray, List.getElem_cons_succ, List.getElem_cons_zero, Act.put, List.setIfInBounds_toArray, List.set_cons_zero, List.set_cons_succ]
        refine' wpAnyH_take (i := 2) (oi := _) (v := _) rfl (by kernel_rfl) (by kernel_rfl) (by kernel_rfl) (fun _ _ _ h => h) (Or.inl ⟨by kernel_rfl, ?hyq3⟩) (by assumption) ?restq3
        case hyq3 => (intro w hSw; (try dsimp only at hSw); go_simp; try (with_reducible rfl))
        try simp only [List.getElem_toArray, List.getElem_cons_succ, List.getElem_cons_zero, Act.put, List.setIfInBounds_toArray, List.set_cons_zero, List.set_cons_succ]
        refine' wpAnyH_take (i := 3) (oi := _) (v := _) rfl (by kernel_rfl) (by kernel_rfl) (by kernel_rfl) (fun _ _ _ h => h) (Or.inl ⟨by kernel_rfl, ?hyq4⟩) (by assumption) ?restq4
        case hyq4 => (intro w hSw; (try dsimp only at hSw); go_simp; try (with_reducible rfl))
        try simp only [List.getElem_toArray, List.getElem_cons_succ, List.getElem_cons_zero, Act.put, List.setIfInBounds_toArray, List.set_cons_zero, List.set_cons_succ]
        refine' wpAnyH_take (i := 4) (oi := _) (v := _) rfl (by kernel_rfl) (by kernel_rfl) (by kernel_rfl) (fun _ _ _ h => h) (Or.inl ⟨by kernel_rfl, ?hyq5⟩) (by assumption) ?restq5
        case hyq5 => (intro w hSw; (try dsimp only at hSw); go_simp; try (with_reducible rfl))
        try simp only [List.getElem_toArray, List.getElem_cons_succ, List.getElem_cons_zero, Act.put, List.setIfInBounds_toArray, List.set_cons_zero, List.set_cons_succ]
        refine' wpAnyH_take (i := 5) (oi := _) (v := _) rfl (by kernel_rfl) (by kernel_rfl) (by kernel_rfl) (fun _ _ _ h => h) (Or.inl ⟨by kernel_rfl, ?hyq6⟩) (by assumption) ?restq6
        case hyq6 => (intro w hSw; (try dsimp only at hSw); go_simp; try (with_reducible rfl))
        try simp only [List.getElem_toArray, List.getElem_cons_succ, List.getElem_cons_zero, Act.put, List.setIfInBounds_toArray, List.set_cons_zero, List.set_cons_succ]
        refine' wpAnyH_take (i := 6) (oi := _) (v := _) rfl (by kernel_rfl) (by kernel_rfl) (by kernel_rfl) (fun _ _ _ h => h) (Or.inl ⟨by kernel_rfl, ?hyq7⟩) (by assumption) ?restq7
        case hyq7 => (intro w hSw; (try dsimp only at hSw); go_simp; try (with_reducible rfl))
        try simp only [List.getElem_toArray, List.getElem_cons_succ, List.getElem_cons_zero, Act.put, List.setIfInBounds_toArray, List.set_cons_zero, List.set_cons_succ]
        refine' wpAnyH_take (i := 7) (oi := _) (v := _) rfl (by kernel_rfl) (by kernel_rfl) (by kernel_rfl) (fun _ _ _ h => h) (Or.inl ⟨by kernel_rfl, ?hyq8⟩) (by assumption) ?restq8
        case hyq8 => (intro w hSw; (try dsimp only at hSw); go_simp; try (with_reducible rfl))
        try simp only [List.getElem_toArray, List.getElem_cons_succ, List.getElem_cons_zero, Act.put, List.setIfInBounds_toArray, List.set_cons_zero, List.set_cons_succ]
        refine' wpAnyH_take (i := 8) (oi := _) (v := _) rfl (by kernel_rfl) (by kernel_rfl) (by kernel_rfl) (fun _ _ _ h => h) (Or.inl ⟨by kernel_rfl, ?hyq9⟩) (by assumption) ?restq9
        case hyq9 => (intro w hSw; (try dsimp only at hSw); go_simp; try (with_reducible rfl))
        try simp only [List.getElem_toArray, List.getElem_cons_succ, List.getElem_cons_zero, Act.put, List.setIfInBounds_toArray, List.set_cons_zero, List.set_cons_succ]
        refine' wpAnyH_take (i := 9) (oi := _) (v := _) rfl (by kernel_rfl) (by kernel_rfl) (by kernel_rfl) (fun _ _ _ h => h) (Or.inl ⟨by kernel_rfl, ?hyq10⟩) (by assumption) ?restq10
        case hyq10 => (intro w hSw; (try dsimp only at hSw); go_simp; try (with_reducible rfl))
        try simp only [List.getElem_toArray, List.getElem_cons_succ, List.getElem_cons_zero, Act.put, List.setIfInBounds_toArray, List.set_cons_zero, List.set_cons_succ]
        refine' wpAnyH_take (i := 10) (oi := _) (v := _) rfl (by kernel_rfl) (by kernel_rfl) (by kernel_rfl) (fun _ _ _ h => h) (Or.inl ⟨by kernel_rfl, ?hyq11⟩) (by assumption) ?restq11
        case hyq11 => (intro w hSw; (try dsimp only at hSw); go_simp; try (with_reducible rfl))
        try simp only [List.getElem_toArray, List.getElem_cons_succ, List.getElem_cons_zero, Act.put, List.setIfInBounds_toArray, List.set_cons_zero, List.set_cons_succ]
        refine' wpAnyH_take (i := 11) (oi := _) (v := _) rfl (by kernel_rfl) (by kernel_rfl) (by kernel_rfl) (fun _ _ _ h => h) (Or.inl ⟨by kernel_rfl, ?hyq12⟩) (by assumption) ?restq12
        case hyq12 => (intro w hSw; (try dsimp only at hSw); go_simp; try (with_reducible rfl))
        try simp only [List.getElem_toArray, List.getElem_cons_succ, List.getElem_cons_zero, Act.put, List.setIfInBounds_toArray, List.set_cons_zero, List.set_cons_succ]
        refine' wpAnyH_take (i := 12) (oi := _) (v := _) rfl (by kernel_rfl) (by kernel_rfl) (by kernel_rfl) (fun _ _ _ h => h) (Or.inl ⟨by kernel_rfl, ?hyq13⟩) (by assumption) ?restq13
        case hyq13 => (intro w hSw; (try dsimp only at hSw); go_simp; try (with_reducible rfl))
        try simp only [List.getElem_toArray, List.getElem_cons_succ, List.getElem_cons_zero, Act.put, List.setIfInBounds_toArray, List.set_cons_zero, List.set_cons_succ]
        refine' wpAnyH_take (i := 13) (oi := _) (v := _) rfl (by kernel_rfl) (by kernel_rfl) (by kernel_rfl) (fun _ _ _ h => h) (Or.inl ⟨by kernel_rfl, ?hyq14⟩) (by assumption) ?restq14
        case hyq14 => (intro w hSw; (try dsimp only at hSw); go_simp; try (with_reducible rfl))
        try simp only [List.getElem_toArray, List.getElem_cons_succ, List.getElem_cons_zero, Act.put, List.setIfInBounds_toArray, List.set_cons_zero, List.set_cons_succ]
        refine' wpAnyH_take (i := 14) (oi := _) (v := _) rfl (by kernel_rfl) (by kernel_rfl) (by kernel_rfl) (fun _ _ _ h => h) (Or.inl ⟨by kernel_rfl, ?hyq15⟩) (by assumption) ?restq15
        case hyq15 => (intro w hSw; (try dsimp only at hSw); go_simp; try (with_reducible rfl))
        try simp only [List.getElem_toArray, List.getElem_cons_succ, List.getElem_cons_zero, Act.put, List.setIfInBounds_toArray, List.set_cons_zero, List.set_cons_succ]
        refine' wpAnyH_take (i := 15) (oi := _) (v := _) rfl (by kernel_rfl) (by kernel_rfl) (by kernel_rfl) (fun _ _ _ h => h) (Or.inl ⟨by kernel_rfl, ?hyq16⟩) (by assumption) ?restq16
        case hyq16 => (intro w hSw; (try dsimp only at hSw); go_simp; try (with_reducible rfl))
        try simp only [List.getElem_toArray, List.getElem_cons_succ, List.getElem_cons_zero, Act.put, List.setIfInBounds_toArray, List.set_cons_zero, List.set_cons_succ]
        refine' wpAnyH_take (i := 16) (oi := _) (v := _) rfl (by kernel_rfl) (by kernel_rfl) (by kernel_rfl) (fun _ _ _ h => h) (Or.inl ⟨by kernel_rfl, ?hyq17⟩) (by assumption) ?restq17
        case hyq17 => (intro w hSw; (try dsimp only at hSw); go_simp; try (with_reducible rfl))
        try simp only [List.getElem_toArray, List.getElem_cons_succ, List.getElem_cons_zero, Act.put, List.setIfInBounds_toArray, List.set_cons_zero, List.set_cons_succ]
        refine' wpAnyH_take (i := 17) (oi := _) (v := _) rfl (by kernel_rfl) (by kernel_rfl) (by kernel_rfl) (fun _ _ _ h => h) (Or.inl ⟨by kernel_rfl, ?hyq18⟩) (by assumption) ?restq18
        case hyq18 => (intro w hSw; (try dsimp only at hSw); go_simp; try (with_reducible rfl))
        try simp only [List.getElem_toArray, List.getElem_cons_succ, List.getElem_cons_zero, Act.put, List.setIfInBounds_toArray, List.set_cons_zero, List.set_cons_succ]
        refine' wpAnyH_take (i := 18) (oi := _) (v := _) rfl (by kernel_rfl) (by kernel_rfl) (by kernel_rfl) (fun _ _ _ h => h) (Or.inl ⟨by kernel_rfl, ?hyq19⟩) (by assumption) ?restq19
        case hyq19 => (intro w hSw; (try dsimp only at hSw); go_simp; try (with_reducible rfl))
        try simp only [List.getElem_toArray, List.getElem_cons_succ, List.getElem_cons_zero, Act.put, List.setIfInBounds_toArray, List.set_cons_zero, List.set_cons_succ]
        refine wpAnyH_ready (rs := [19]) (by kernel_rfl) (by simp) ?_
        refine AllReadyH.cons (o := _) rfl (fun K hK => ?_) AllReadyH.nil
        go_simp
        (go_at_call 9; with_reducible refine (CL.out _ HBD.out).mono ?_; rintro e w4 ⟨rfl, H4⟩; have HA1 := hid (btr HBD.out H4); clear H4)
        (try go_wp2_with fail)
        refine hK.out _ _ ?_ (fun hHeld => ?_)
        · (try dsimp only); (exact HS.out _ HA1.out)
        clear hK K
        try simp only [List.getElem_toArray, List.getElem_cons_succ, List.getElem_cons_zero, Act.put, List.setIfInBounds_toArray, List.set_cons_zero, List.set_cons_succ]
        refine' wpAnyH_take (i := 20) (oi := _) (v := _) rfl (by kernel_rfl) (by kernel_rfl) (by kernel_rfl) (fun _ _ _ h => h) (Or.inl ⟨by kernel_rfl, ?hyq20⟩) (by assumption) ?restq20
        case hyq20 => (intro w hSw; (try dsimp only at hSw); go_simp; try (with_reducible rfl))
        try simp only [List.getElem_toArray, List.getElem_cons_succ, List.getElem_cons_zero, Act.put, List.setIfInBounds_toArray, List.set_cons_zero, List.set_cons_succ]
        refine' wpAnyH_take (i := 21) (oi := _) (v := _) rfl (by kernel_rfl) (by kernel_rfl) (by kernel_rfl) (fun _ _ _ h => h) (Or.inl ⟨by kernel_rfl, ?hyq21⟩) (by assumption) ?restq21
        case hyq21 => (intro w hSw; (try dsimp only at hSw); go_simp; try (with_reducible rfl))
        try simp only [List.getElem_toArray, List.getElem_cons_succ, List.getElem_cons_zero, Act.put, List.setIfInBounds_toArray, List.set_cons_zero, List.set_cons_succ]
        refine' wpAnyH_take (i := 22) (oi := _) (v := _) rfl (by kernel_rfl) (by kernel_rfl) (by kernel_rfl) (fun _ _ _ h => h) (Or.inl ⟨by kernel_rfl, ?hyq22⟩) (by assumption) ?restq22
        case hyq22 => (intro w hSw; (try dsimp only at hSw); go_simp; try (with_reducible rfl))
        try simp only [List.getElem_toArray, List.getElem_cons_succ, List.getElem_cons_zero, Act.put, List.setIfInBounds_toArray, List.set_cons_zero, List.set_cons_succ]
        refine' wpAnyH_take (i := 23) (oi := _) (v := _) rfl (by kernel_rfl) (by kernel_rfl) (by kernel_rfl) (fun _ _ _ h => h) (Or.inl ⟨by kernel_rfl, ?hyq23⟩) (by assumption) ?restq23
        case hyq23 => (intro w hSw; (try dsimp only at hSw); go_simp; try (with_reducible rfl))
        try simp only [List.getElem_toArray, List.getElem_cons_succ, List.getElem_cons_zero, Act.put, List.setIfInBounds_toArray, List.set_cons_zero, List.set_cons_succ]
        refine wpAnyH_ready (rs := [24]) (by kernel_rfl) (by simp) ?_
        refine AllReadyH.cons (o := _) rfl (fun K hK => ?_) AllReadyH.nil
        go_simp
        (go_at_call 10; with_reducible refine (CV.out _ HA1.out).mono ?_; rintro e w5 ⟨rfl, H5⟩; have HA2 := hid (btr HA1.out H5); clear H5)
        (try go_wp2_with fail)
        refine hK.out _ _ ?_ (fun hHeld => ?_)
        · (try dsimp only); (exact HS.out _ HA2.out)
        clear hK K
        try simp only [List.getElem_toArray, List.getElem_cons_succ, List.getElem_cons_zero, Act.put, List.setIfInBounds_toArray, List.set_cons_zero, List.set_cons_succ]
        refine' wpAnyH_take (i := 25) (oi := _) (v := _) rfl (by kernel_rfl) (by kernel_rfl) (by kernel_rfl) (fun _ _ _ h => h) (Or.inl ⟨by kernel_rfl, ?hyq24⟩) (by assumption) ?restq24
        case hyq24 => (intro w hSw; (try dsimp only at hSw); go_simp; try (with_reducible rfl))
        try simp only [List.getElem_toArray, List.getElem_cons_succ, List.getElem_cons_zero, Act.put, List.setIfInBounds_toArray, List.set_cons_zero, List.set_cons_succ]
        refine' wpAnyH_take (i := 26) (oi := _) (v := _) rfl (by kernel_rfl) (by kernel_rfl) (by kernel_rfl) (fun _ _ _ h => h) (Or.inl ⟨by kernel_rfl, ?hyq25⟩) (by assumption) ?restq25
        case hyq25 => (intro w hSw; (try dsimp only at hSw); go_simp; try (with_reducible rfl))
        try simp only [List.getElem_toArray, List.getElem_cons_succ, List.getElem_cons_zero, Act.put, List.setIfInBounds_toArray, List.set_cons_zero, List.set_cons_succ]
        refine wpAnyH_done (by kernel_rfl) ?_ _
        rename_i hHeld2
        clear hHeld hHeld2
        go_upto_region 11 with fail
        refine Sr.reg_any2 [64, 65, 66, 67, 68, 69, 70, 71, 72, 73, 74, 75, 76, 77, 78, 79, 80, 81, 82, 83, 84, 85, 86] (fun t U => t 86 = .bool false ∧ Hid (Below V.heap.size V U)) ?_ ?_
        · obtain ⟨d0, d1, d2, d3, d4, d5, d6⟩ := HS.out _ HA2.out
          by_cases h1 : 0 < n1
          · by_cases h2 : 0 < n2
            · obtain ⟨g, g', u, v, rfl, rfl, f1, f2, huv⟩ := HPX.out h1 h2 _ HA2.out
              have n0 : (0 : Int) < (n1 : Int) := by omega
              have m0 : (0 : Int) < (n2 : Int) := by omega
              have dn : decide (0 < n1) = true := decide_eq_true h1
              have dm : decide (0 < n2) = true := decide_eq_true h2
              go_big_quiet (fail)
              exact ⟨by kernel_rfl, by simp [huv], hid (HA2.out.trans ((bdrew _ _).mono HA2.out.size))⟩
            · obtain rfl : n2 = 0 := by omega
              have n0 : (0 : Int) < (n1 : Int) := by omega
              have dn : decide (0 < n1) = true := decide_eq_true h1
              go_big_quiet (fail)
              exact ⟨by kernel_rfl, by rfl, hid (HA2.out.trans ((bdrew _ _).mono HA2.out.size))⟩
          · obtain rfl : n1 = 0 := by omega
            go_big_quiet (fail)
            exact ⟨by kernel_rfl, by rfl, hid (HA2.out.trans ((bdrew _ _).mono HA2.out.size))⟩
        rintro t U0 ⟨et, HU0⟩
        simp only [Sr.puts, List.foldl_cons, List.foldl_nil, Act.put, List.setIfInBounds_toArray, List.set_cons_zero, List.set_cons_succ]
        rw [et]
        clear et
        go_wp2_with fail
        go_loopw [9] (fun jv wr => ∃ (j : Nat), 1 ≤ j ∧ (j ≤ n1 ∨ j = 1) ∧ jv = .int .i64 j ∧ Hid (Below V.heap.size V wr)) (fun jv _ => n1 - (intOf jv).toNat)
        case atStart => exact ⟨1, Nat.le_refl _, .inr rfl, rfl, HU0⟩
        case round =>
          obtain ⟨j, j1, j2, rfl, HJ⟩ := hrel
          obtain ⟨d0, d1, d2, d3, d4, d5, d6⟩ := HS.out _ HJ.out
          by_cases hj : j < n1
          · obtain ⟨k, hk⟩ : ∃ k, k + 1 = j := ⟨j - 1, by omega⟩
            obtain ⟨g, u, v, rfl, f1, f2, huv⟩ := HPR1.out j k hk hj _ HJ.out
            have wm : IntKind.i64.wrap ((j : Int) - 1) = (k : Int) := by rw [IntKind.wrap_i64]; omega
            have jj0 : (0 : Int) ≤ (j : Int) := by omega
            have jj1 : (j : Int) < (n1 : Int) := by omega
            have kk0 : (0 : Int) ≤ (k : Int) := by omega
            have kk1 : (k : Int) < (n1 : Int) := by omega
            have HK := hid hk
            clear hk
            go_upto_region 16 with fail
            go_big_quiet (fail)
            go_wp2
            go_roundw
            case rel => exact ⟨j + 1, by omega, .inl (by omega), by go_num, hid (HJ.out.trans ((bdrew _ _).mono HJ.out.size))⟩
            case measure => first | (simp [intOf]; done) | (simp [intOf]; omega)
          · have hj' : ¬ (j : Int) < (n1 : Int) := by omega
            go_wp2_with fail
            go_loopw [10] (fun jv wr => ∃ (j : Nat), 1 ≤ j ∧ (j ≤ n2 ∨ j = 1) ∧ jv = .int .i64 j ∧ Hid (Below V.heap.size V wr)) (fun jv _ => n2 - (intOf jv).toNat)
            case atStart => exact ⟨1, Nat.le_refl _, .inr rfl, rfl, HJ⟩
            case round =>
              clear HJ d0 d1 d2 d3 d4 d5 d6 j1 j2 hj hj'
              obtain ⟨j, j1, j2, rfl, HJ⟩ := hrel
              obtain ⟨d0, d1, d2, d3, d4, d5, d6⟩ := HS.out _ HJ.out
              by_cases hj : j < n2
              · obtain ⟨k, hk⟩ : ∃ k, k + 1 = j := ⟨j - 1, by omega⟩
                obtain ⟨g, u, v, rfl, f1, f2, huv⟩ := HPR2.out j k hk hj _ HJ.out
                have wm : IntKind.i64.wrap ((j : Int) - 1) = (k : Int) := by rw [IntKind.wrap_i64]; omega
                have jj0 : (0 : Int) ≤ (j : Int) := by omega
                have jj1 : (j : Int) < (n2 : Int) := by omega
                have kk0 : (0 : Int) ≤ (k : Int) := by omega
                have kk1 : (k : Int) < (n2 : Int) := by omega
                have HK := hid hk
                clear hk
                go_upto_region 21 with fail
                go_big_quiet (fail)
                go_wp2
                go_roundw
                case rel => exact ⟨j + 1, by omega, .inl (by omega), by go_num, hid (HJ.out.trans ((bdrew _ _).mono HJ.out.size))⟩
                case measure => first | (simp [intOf]; done) | (simp [intOf]; omega)
              · have hj' : ¬ (j : Int) < (n2 : Int) := by omega
                go_wp2
                go_roundw
                case rel => exact ⟨i + 1, b', by omega, by go_num, hid (HPV.out.on HJ.out), HS2, HC2⟩
                case measure => first | (simp [intOf]; done) | (simp [intOf]; omega)
      · obtain rfl : i = n := by omega
        go_wp2
        go_ret
        exact ⟨rfl, btr HB.out HP.out.be⟩
end Go.Proofs.Ytfgcfiejkjhebaa
