/-
  An interest is entered.
-/
import Derived.Test.YtknikhoobhgidaaAuR
namespace Go.Proofs.Ytknikhoobhgidaa
open Go.RowKit Go.Deep Go.Shelf
set_option linter.unusedVariables false
set_option linter.unusedSimpArgs false
set_option maxHeartbeats 4000000
set_option maxRecDepth 100000
attribute [local go_sem ↓] Go.wp_at_zero Go.wp_at_succ
theorem enter1_any (I L B k : Nat) (x : It) (q : Option Addr) (c : Nat) (l : List It) (i : Nat) (hi : i < l.length) (w : World) (h : Li w q c l) (hI : w.heap[I]? = some (.cells #[.int .u64 x.id, .int .u32 x.mb, .int .i64 x.sd, .int .i64 x.ty, .int .i64 x.pr, .int .u64 x.qt] 36 (0, 0))) (hL : w.cell? ⟨L, 0, none⟩ = some (.pointer (some ⟨B, k, none⟩))) (hB : w.cell? ⟨B, k, none⟩ = some (.slice q l.length c)) (sL : L < w.heap.size) (sB : B < w.heap.size) :
    Calls Try.prog 56 #[.int .i64 i, .pointer (some ⟨I, 0, none⟩), .pointer (some ⟨L, 0, none⟩)] w fun e w' => e = .returned (.bool (ahd x l[i])) ∧ Below w.heap.size w w' := by
  obtain ⟨g, rfl, a0, a1, a2, a3, a4, a5⟩ := h.cells hi
  obtain ⟨cu, hg⟩ := h.ty (OfP.mk g)
  have sg := row_lt hg
  obtain ⟨z, hz⟩ : ∃ z, l[i] = z := ⟨_, rfl⟩
  rw [hz] at a0 a1 a2 a3 a4 a5 ⊢
  obtain ⟨n, hn⟩ : ∃ n, l.length = n := ⟨_, rfl⟩
  rw [hn] at hB
  have i0 : (0 : Int) ≤ (i : Int) := by omega
  have i1 : (i : Int) < (n : Int) := by omega
  have HS := hid (show ∀ U, Below w.heap.size w U → U.cell? ⟨I, 0, none⟩ = some (.int .u64 x.id) ∧ U.cell? ⟨I, 1, none⟩ = some (.int .u32 x.mb) ∧ U.cell? ⟨I, 2, none⟩ = some (.int .i64 x.sd) ∧ U.cell? ⟨I, 3, none⟩ = some (.int .i64 x.ty) ∧ U.cell? ⟨I, 4, none⟩ = some (.int .i64 x.pr) ∧ U.cell? ⟨I, 5, none⟩ = some (.int .u64 x.qt) ∧ U.cell? ⟨L, 0, none⟩ = some (.pointer (some ⟨B, k, none⟩)) ∧ U.cell? ⟨B, k, none⟩ = some (.slice (some ⟨g, 0, none⟩) n c) ∧ U.cell? ⟨g, i * 6, none⟩ = some (.int .u64 z.id) ∧ U.cell? ⟨g, i * 6 + 1, none⟩ = some (.int .u32 z.mb) ∧ U.cell? ⟨g, i * 6 + 2, none⟩ = some (.int .i64 z.sd) ∧ U.cell? ⟨g, i * 6 + 3, none⟩ = some (.int .i64 z.ty) ∧ U.cell? ⟨g, i * 6 + 4, none⟩ = some (.int .i64 z.pr) ∧ U.cell? ⟨g, i * 6 + 5, none⟩ = some (.int .u64 z.qt) from fun U hU => by
    obtain ⟨b0, b1, b2, b3, b4, b5⟩ := row6 (row_on hI hU)
    exact ⟨b0, b1, b2, b3, b4, b5, (hU.cell (p := ⟨L, 0, none⟩) sL).trans hL, (hU.cell (p := ⟨B, k, none⟩) sB).trans hB, (hU.cell (p := ⟨g, i * 6, none⟩) sg).trans a0, (hU.cell (p := ⟨g, i * 6 + 1, none⟩) sg).trans a1, (hU.cell (p := ⟨g, i * 6 + 2, none⟩) sg).trans a2, (hU.cell (p := ⟨g, i * 6 + 3, none⟩) sg).trans a3, (hU.cell (p := ⟨g, i * 6 + 4, none⟩) sg).trans a4, (hU.cell (p := ⟨g, i * 6 + 5, none⟩) sg).trans a5⟩)
  have C := hid (fun U (hU : Below w.heap.size w U) => on_b (ahead_any x z U) hU)
  clear h hz hn hg hi hI hL hB a0 a1 a2 a3 a4 a5
  go_enter Try.func56, Try.ntmps56
  go_upto_region 1 with fail
  obtain ⟨k0, k1, k2, k3, k4, k5, k6, k7, k8, k9, k10, k11, k12, k13⟩ := HS.out w (Below.refl _ _)
  go_region_held3 (fun U => U.cell? ⟨I, 0, none⟩ = some (.int .u64 x.id) ∧ U.cell? ⟨I, 1, none⟩ = some (.int .u32 x.mb) ∧ U.cell? ⟨I, 2, none⟩ = some (.int .i64 x.sd) ∧ U.cell? ⟨I, 3, none⟩ = some (.int .i64 x.ty) ∧ U.cell? ⟨I, 4, none⟩ = some (.int .i64 x.pr) ∧ U.cell? ⟨I, 5, none⟩ = some (.int .u64 x.qt) ∧ U.cell? ⟨L, 0, none⟩ = some (.pointer (some ⟨B, k, none⟩)) ∧ U.cell? ⟨B, k, none⟩ = some (.slice (some ⟨g, 0, none⟩) n c) ∧ U.cell? ⟨g, i * 6, none⟩ = some (.int .u64 z.id) ∧ U.cell? ⟨g, i * 6 + 1, none⟩ = some (.int .u32 z.mb) ∧ U.cell? ⟨g, i * 6 + 2, none⟩ = some (.int .i64 z.sd) ∧ U.cell? ⟨g, i * 6 + 3, none⟩ = some (.int .i64 z.ty) ∧ U.cell? ⟨g, i * 6 + 4, none⟩ = some (.int .i64 z.pr) ∧ U.cell? ⟨g, i * 6 + 5, none⟩ = some (.int .u64 z.qt)) (go_keep) (first | (go_at_call 57; with_reducible refine (C.out _ (bdrew1 w)).mono ?_; rintro e w1 ⟨rfl, HB1⟩; obtain ⟨k0, k1, k2, k3, k4, k5, k6, k7, k8, k9, k10, k11, k12, k13⟩ := HS.out w1 HB1.out))
  go_wp2
  go_ret
  exact ⟨rfl, HB1.out⟩
theorem search_e (I L B k : Nat) (s : Int) (x : It) (q : Option Addr) (c : Nat) (l : List It) (w : World) (h : Li w q c l) (hI : w.heap[I]? = some (.cells #[.int .u64 x.id, .int .u32 x.mb, .int .i64 x.sd, .int .i64 x.ty, .int .i64 x.pr, .int .u64 x.qt] 36 (0, 0))) (hL : w.cell? ⟨L, 0, none⟩ = some (.pointer (some ⟨B, k, none⟩))) (hB : w.cell? ⟨B, k, none⟩ = some (.slice q l.length c)) (sL : L < w.heap.size) (sB : B < w.heap.size) (ho : Sd s l) (hx : Ik s x) :
    Calls Try.prog 55 #[.int .i64 l.length, .func (.func 56) #[] #[.pointer (some ⟨I, 0, none⟩), .pointer (some ⟨L, 0, none⟩)]] w fun e w' => e = .returned (.int .i64 (bh x l)) ∧ Below w.heap.size w w' := by
  have hn := ho.ln
  have HL := hid h
  have HC := hid (And.intro hI (And.intro hL hB))
  have HO := hid ho
  have HX := hid hx
  clear h hI hL hB ho hx
  go_enter Try.func55, Try.ntmps55
  go_wp2
  go_loopw [5, 6] (fun iv jv wr => ∃ i j : Nat, i ≤ j ∧ j ≤ l.length ∧ iv = .int .i64 i ∧ jv = .int .i64 j ∧ Hid (∀ k (hk : k < l.length), k < i → ahd x l[k] = false) ∧ Hid (∀ k (hk : k < l.length), j ≤ k → ahd x l[k] = true) ∧ Hid (Below w.heap.size w wr)) (fun iv jv _ => (intOf jv).toNat - (intOf iv).toNat)
  case atStart => exact ⟨0, l.length, by omega, by omega, rfl, rfl, fun k _ hk => by omega, fun k _ hk => by omega, Below.refl _ _⟩
  case round =>
    obtain ⟨i, j, hij, hj, rfl, rfl, H1, H2, HB⟩ := hrel
    by_cases hlt : i < j
    · obtain ⟨m, hm⟩ : ∃ m, (i + j) / 2 = m := ⟨_, rfl⟩
      have hm1 : i ≤ m := by omega
      have hm2 : m < j := by omega
      have hml : m < l.length := by omega
      have C1 := hid (enter1_any I L B k x q c l m hml wr (HL.out.on HB.out) (row_on HC.out.1 HB.out) ((HB.out.cell (p := ⟨L, 0, none⟩) sL).trans HC.out.2.1) ((HB.out.cell (p := ⟨B, k, none⟩) sB).trans HC.out.2.2) (Nat.lt_of_lt_of_le sL HB.out.size) (Nat.lt_of_lt_of_le sB HB.out.size))
      have a1 : IntKind.u64.wrap ((i : Int) + (j : Int)) = (i : Int) + (j : Int) := by rw [IntKind.wrap_u64]; omega
      have a2 : ((i : Int) + (j : Int)) / 2 = (m : Int) := by omega
      have a3 : IntKind.i64.wrap (m : Int) = (m : Int) := by rw [IntKind.wrap_i64]; omega
      have HM := hid hm
      clear hm
      obtain ⟨bv, hbv⟩ : ∃ b, ahd x l[m] = b := ⟨_, rfl⟩
      rw [hbv] at C1
      have HBV := hid hbv
      clear hbv
      cases bv with
      | true =>
        go_wp2_with (go_at_call 56; with_reducible refine (C1.out).mono ?_; rintro e w1 ⟨rfl, hb1⟩; have HB1 := hid hb1; clear hb1)
        go_roundw
        case rel => exact ⟨i, m, hm1, by omega, rfl, rfl, H1.out, fun k hk hmk => HO.out.up HX.out hml hk hmk HBV.out, btr HB.out HB1.out⟩
        case measure => simp [intOf]; omega
      | false =>
        go_wp2_with (go_at_call 56; with_reducible refine (C1.out).mono ?_; rintro e w1 ⟨rfl, hb1⟩; have HB1 := hid hb1; clear hb1)
        go_roundw
        case rel =>
          refine ⟨m + 1, j, by omega, by omega, by go_num, rfl, fun k hk hkm => ?_, H2.out, btr HB.out HB1.out⟩
          cases hx : ahd x l[k] with
          | false => rfl
          | true =>
            have := HO.out.up HX.out hk hml (by omega) hx
            rw [HBV.out] at this; cases this
        case measure => simp [intOf]; omega
    · have hi5 : i = j := by omega
      subst hi5
      go_wp2
      go_ret
      exact ⟨by rw [show bh x l = i from tw_eq hj (fun k hk hki => by simp [H1.out k hk hki]) (fun hk => by simp [H2.out i hk (Nat.le_refl _)])]; rfl, HB.out⟩
theorem li_set {w : World} {p : Option Addr} {c B k : Nat} {l : List It} {row : Array Value} {t : TypeId} {v : Value} (h : Li w p c l) (hB : w.heap[B]? = some (.cells row t (0, 0))) (t1 : t ≠ 36) : Li (w.setCell ⟨B, k, none⟩ v) p c l :=
  h.kept (Kp.set w B k v) (fun g hg e => by
    obtain ⟨cur, hc⟩ := h.ty hg
    exact row_ne hB hc t1 e.symm)
theorem lenter_any (B k : Nat) (s : Int) (row : Array Value) (x : It) (p : Option Addr) (c : Nat) (l : List It) (w : World) (hB : w.heap[B]? = some (.cells row 68 (0, 0))) (hk : row[k]? = some (.slice p l.length c)) (h : Li w p c l) (ho : Sd s l) (hx : Ik s x) (hl : l.length < 4096) :
    Calls Try.prog 34 #[.pointer (some ⟨B, k, none⟩), .agg #[.int .u64 x.id, .int .u32 x.mb, .int .i64 x.sd, .int .i64 x.ty, .int .i64 x.pr, .int .u64 x.qt]] w fun e w' => e = .returned (.tuple #[]) ∧ ∃ p' c', w'.heap[B]? = some (.cells (row.setIfInBounds k (.slice p' (ent x l).length c')) 68 (0, 0)) ∧ Li w' p' c' (ent x l) ∧ (∀ g, OfP p' g → OfP p g ∨ w.heap.size ≤ g) ∧ Kp (fun b => b = B ∨ OfP p b) w w' := by
  obtain ⟨R, hR⟩ : ∃ R, w.heap.size = R := ⟨_, rfl⟩
  obtain ⟨U1, hU1⟩ : ∃ U, w.alloc (.cells #[.pointer (some ⟨B, k, none⟩)] 71) = U := ⟨_, rfl⟩
  obtain ⟨W, hW⟩ : ∃ U, U1.alloc (.cells #[.int .u64 x.id, .int .u32 x.mb, .int .i64 x.sd, .int .i64 x.ty, .int .i64 x.pr, .int .u64 x.qt] 36) = U := ⟨_, rfl⟩
  have s1 : U1.heap.size = R + 1 := by rw [← hU1, ← hR]; simp
  have b1 : Below w.heap.size w U1 := by rw [← hU1]; exact ball _ _
  have b2 : Below U1.heap.size U1 W := by rw [← hW]; exact ball _ _
  have HBW := hid (btr b1 b2)
  have HL := hid (show W.heap[R]? = some (.cells #[.pointer (some ⟨B, k, none⟩)] 71 (0, 0)) from row_on (by rw [← hU1, ← hR]; exact World.alloc_heap_new _ _) b2)
  have HI := hid (show W.heap[R + 1]? = some (.cells #[.int .u64 x.id, .int .u32 x.mb, .int .i64 x.sd, .int .i64 x.ty, .int .i64 x.pr, .int .u64 x.qt] 36 (0, 0)) from by rw [← hW, ← s1]; exact World.alloc_heap_new _ _)
  have HBr := hid hB
  have HLi := hid h
  have HBW' := hid (row_on hB HBW.out)
  have kR := row_cell HL.out 0
  simp only [List.getElem?_toArray, List.getElem?_cons_zero] at kR
  have kB : W.cell? ⟨B, k, none⟩ = some (.slice p l.length c) := by rw [row_cell HBW'.out, hk]
  have CS := hid (search_e (R + 1) R B k s x p c l W (h.on HBW.out) HI.out kR kB (row_lt HL.out) (row_lt HBW'.out) ho hx)
  have hbl := bh_le x l
  have CIN := hid (fun (vb : Nat) (U : World) (hU : Li U p c l) (hv : U.heap[vb]? = some (.cells #[.int .u64 x.id, .int .u32 x.mb, .int .i64 x.sd, .int .i64 x.ty, .int .i64 x.pr, .int .u64 x.qt] 36 (0, 0))) (hne : ¬ OfP p vb) => insert_any p c l (bh x l) x vb U hU hbl (by omega) hv hne)
  change Hid (∀ (vb : Nat) (U : World), Li U p c l → U.heap[vb]? = some (.cells #[.int .u64 x.id, .int .u32 x.mb, .int .i64 x.sd, .int .i64 x.ty, .int .i64 x.pr, .int .u64 x.qt] 36 (0, 0)) → ¬ OfP p vb → Calls Try.prog 58 #[.slice p l.length c, .int .i64 (bh x l), .slice (some ⟨vb, 0, none⟩) 1 1] U fun e w' => ∃ p' c', e = .returned (.slice p' (ent x l).length c') ∧ Li w' p' c' (ent x l) ∧ (∀ g, OfP p' g → OfP p g ∨ U.heap.size ≤ g) ∧ Kp (OfP p) U w') at CIN
  have HPB := hid (show ∀ g, OfP p g → g < w.heap.size ∧ g ≠ B from fun g hg => by
    obtain ⟨cu, hc⟩ := h.ty hg
    exact ⟨row_lt hc, row_ne hc hB (by decide)⟩)
  have HKR := hid hk
  have sB := row_lt hB
  obtain ⟨n, hn⟩ : ∃ n, l.length = n := ⟨_, rfl⟩
  obtain ⟨m, hm⟩ : ∃ m, bh x l = m := ⟨_, rfl⟩
  obtain ⟨E, hE⟩ : ∃ E, ent x l = E := ⟨_, rfl⟩
  have HEE := hid hE
  rw [hn] at CS CIN kB
  rw [hm] at CS CIN
  rw [hE] at CIN ⊢
  obtain ⟨ne, hne⟩ : ∃ n, E.length = n := ⟨_, rfl⟩
  rw [hne] at CIN ⊢
  have HNE := hid hne
  have HNN := hid hn
  have H1 := hid hU1
  have HW := hid hW
  have HRR := hid hR
  clear hU1 hW hR s1 b1 b2 hB hk h ho hx hl hbl hn hm hE hne
  go_enter Try.func34, Try.ntmps34
  go_upto_region 1 with fail
  rw [H1.out, HW.out, HRR.out]
  go_upto_region 2 with (go_at_call 55; with_reducible refine (CS.out).mono ?_; rintro e v1 ⟨rfl, hb⟩; have V1 := hid hb; clear hb)
  clear kR kB
  obtain ⟨Y0, hY0⟩ : ∃ X, v1.drew = X := ⟨_, rfl⟩
  have V2 := hid (show Below W.heap.size W Y0 from by rw [← hY0]; exact btr V1.out (bdrew1 _))
  have HLY := hid (row_on HL.out V2.out)
  have HIY := hid (row_on HI.out V2.out)
  have HBY := hid (row_on HBW'.out V2.out)
  have HS := hid (show ∀ U : World, U.heap[R]? = Y0.heap[R]? → U.heap[R + 1]? = Y0.heap[R + 1]? → U.cell? ⟨R, 0, none⟩ = some (.pointer (some ⟨B, k, none⟩)) ∧ U.cell? ⟨(R + 1), 0, none⟩ = some (.int .u64 x.id) ∧ U.cell? ⟨(R + 1), 1, none⟩ = some (.int .u32 x.mb) ∧ U.cell? ⟨(R + 1), 2, none⟩ = some (.int .i64 x.sd) ∧ U.cell? ⟨(R + 1), 3, none⟩ = some (.int .i64 x.ty) ∧ U.cell? ⟨(R + 1), 4, none⟩ = some (.int .i64 x.pr) ∧ U.cell? ⟨(R + 1), 5, none⟩ = some (.int .u64 x.qt) from fun U e1 e2 => by
    have r1 := e1.trans HLY.out
    obtain ⟨y0, y1, y2, y3, y4, y5⟩ := row6 (e2.trans HIY.out)
    exact ⟨row_cell r1 0, y0, y1, y2, y3, y4, y5⟩)
  have HBK := hid (show ∀ U, Below Y0.heap.size Y0 U → U.cell? ⟨B, k, none⟩ = some (.slice p n c) from fun U hU => by rw [row_cell (row_on HBY.out hU), HKR.out, HNN.out])
  refine wp_region_held_drew (S := (fun U => U.cell? ⟨R, 0, none⟩ = some (.pointer (some ⟨B, k, none⟩)) ∧ U.cell? ⟨(R + 1), 0, none⟩ = some (.int .u64 x.id) ∧ U.cell? ⟨(R + 1), 1, none⟩ = some (.int .u32 x.mb) ∧ U.cell? ⟨(R + 1), 2, none⟩ = some (.int .i64 x.sd) ∧ U.cell? ⟨(R + 1), 3, none⟩ = some (.int .i64 x.ty) ∧ U.cell? ⟨(R + 1), 4, none⟩ = some (.int .i64 x.pr) ∧ U.cell? ⟨(R + 1), 5, none⟩ = some (.int .u64 x.qt))) (by kernel_rfl) ?_ (fun hHeld => ?_)
  · (try dsimp only); rw [hY0]; exact HS.out Y0 rfl rfl
  rw [hY0] at hHeld ⊢
  clear hY0
  refine' wpAnyH_take (i := 0) (oi := _) (v := _) rfl (by kernel_rfl) (by kernel_rfl) (by kernel_rfl) (fun _ _ _ h => h) (Or.inl ⟨by kernel_rfl, ?_⟩) (by assumption) ?_
  rotate_left
  · (intro w hSw; (try dsimp only at hSw); go_simp; try (with_reducible rfl))
  try simp only [List.getElem_toArray, List.getElem_cons_succ, List.getElem_cons_zero, Act.put, List.setIfInBounds_toArray, List.set_cons_zero, List.set_cons_succ]
  refine' wpAnyH_take (i := 1) (oi := _) (v := _) rfl (by kernel_rfl) (by kernel_rfl) (by kernel_rfl) (fun _ _ _ h => h) (Or.inl ⟨by kernel_rfl, ?_⟩) (by assumption) ?_
  rotate_left
  · (intro w hSw; (try dsimp only at hSw); go_simp; try (with_reducible rfl))
  try simp only [List.getElem_toArray, List.getElem_cons_succ, List.getElem_cons_zero, Act.put, List.setIfInBounds_toArray, List.set_cons_zero, List.set_cons_succ]
  refine' wpAnyH_take (i := 2) (oi := _) (v := _) rfl (by kernel_rfl) (by kernel_rfl) (by kernel_rfl) (fun _ _ _ h => h) (Or.inl ⟨by kernel_rfl, ?_⟩) (by assumption) ?_
  rotate_left
  · (intro w hSw; (try dsimp only at hSw); go_simp; try (with_reducible rfl))
  try simp only [List.getElem_toArray, List.getElem_cons_succ, List.getElem_cons_zero, Act.put, List.setIfInBounds_toArray, List.set_cons_zero, List.set_cons_succ]
  refine' wpAnyH_take (i := 4) (oi := _) (v := _) rfl (by kernel_rfl) (by kernel_rfl) (by kernel_rfl) (fun _ _ _ h => h) (Or.inl ⟨by kernel_rfl, ?_⟩) (by assumption) ?_
  rotate_left
  · (intro w hSw; (try dsimp only at hSw); go_simp; try (with_reducible rfl))
  try simp only [List.getElem_toArray, List.getElem_cons_succ, List.getElem_cons_zero, Act.put, List.setIfInBounds_toArray, List.set_cons_zero, List.set_cons_succ]
  refine' wpAnyH_take (i := 5) (oi := _) (v := _) rfl (by kernel_rfl) (by kernel_rfl) (by kernel_rfl) (fun _ _ _ h => h) (Or.inl ⟨by kernel_rfl, ?_⟩) (by assumption) ?_
  rotate_left
  · (intro w hSw; (try dsimp only at hSw); go_simp; try (with_reducible rfl))
  try simp only [List.getElem_toArray, List.getElem_cons_succ, List.getElem_cons_zero, Act.put, List.setIfInBounds_toArray, List.set_cons_zero, List.set_cons_succ]
  refine wpAnyH_ready (rs := [3, 6]) (by kernel_rfl) (by simp) ?_
  refine (AllReadyH.cons (o := _) rfl (fun KK hK => ?_) (AllReadyH.cons (o := _) rfl (fun KK hK => ?_) AllReadyH.nil))
  focus
    have kb := HBK.out Y0 (Below.refl _ _)
    go_simp
    refine hK.out _ _ ?_ (fun hHeld => ?_)
    · (try dsimp only); exact HS.out Y0 rfl rfl
    clear hK kb
    try simp only [List.getElem_toArray, List.getElem_cons_succ, List.getElem_cons_zero, Act.put, List.setIfInBounds_toArray, List.set_cons_zero, List.set_cons_succ]
    refine wpAnyH_ready (rs := [6]) (by kernel_rfl) (by simp) ?_
    refine AllReadyH.cons (o := _) rfl (fun KK hK => ?_) AllReadyH.nil
    go_simp
    refine hK.out _ _ ?_ (fun hHeld => ?_)
    · (try dsimp only); exact HS.out _ ((ball Y0 _).block R (row_lt HLY.out)) ((ball Y0 _).block (R + 1) (row_lt HIY.out))
    clear hK
    try simp only [List.getElem_toArray, List.getElem_cons_succ, List.getElem_cons_zero, Act.put, List.setIfInBounds_toArray, List.set_cons_zero, List.set_cons_succ]
  rotate_left
  focus
    go_simp
    refine hK.out _ _ ?_ (fun hHeld => ?_)
    · (try dsimp only); exact HS.out _ ((ball Y0 _).block R (row_lt HLY.out)) ((ball Y0 _).block (R + 1) (row_lt HIY.out))
    clear hK
    try simp only [List.getElem_toArray, List.getElem_cons_succ, List.getElem_cons_zero, Act.put, List.setIfInBounds_toArray, List.set_cons_zero, List.set_cons_succ]
    refine wpAnyH_ready (rs := [3]) (by kernel_rfl) (by simp) ?_
    refine AllReadyH.cons (o := _) rfl (fun KK hK => ?_) AllReadyH.nil
    have kb := HBK.out _ (ball Y0 (.cells #[.int .u64 x.id, .int .u32 x.mb, .int .i64 x.sd, .int .i64 x.ty, .int .i64 x.pr, .int .u64 x.qt] 36))
    go_simp
    refine hK.out _ _ ?_ (fun hHeld => ?_)
    · (try dsimp only); exact HS.out _ ((ball Y0 _).block R (row_lt HLY.out)) ((ball Y0 _).block (R + 1) (row_lt HIY.out))
    clear hK kb
    try simp only [List.getElem_toArray, List.getElem_cons_succ, List.getElem_cons_zero, Act.put, List.setIfInBounds_toArray, List.set_cons_zero, List.set_cons_succ]
  all_goals (
    obtain ⟨X, hX⟩ : ∃ X, Y0.alloc (.cells #[.int .u64 x.id, .int .u32 x.mb, .int .i64 x.sd, .int .i64 x.ty, .int .i64 x.pr, .int .u64 x.qt] 36) = X := ⟨_, rfl⟩
    obtain ⟨vb, hvb⟩ : ∃ g, Y0.heap.size = g := ⟨_, rfl⟩
    have BX := hid (show Below Y0.heap.size Y0 X from by rw [← hX]; exact ball _ _)
    have HVX := hid (show X.heap[vb]? = some (.cells #[.int .u64 x.id, .int .u32 x.mb, .int .i64 x.sd, .int .i64 x.ty, .int .i64 x.pr, .int .u64 x.qt] 36 (0, 0)) from by rw [← hX, ← hvb]; exact World.alloc_heap_new _ _)
    have HVN := hid (show ¬ OfP p vb from fun e => by have := (HPB.out vb e).1; have := HBW.out.size; have := V2.out.size; omega)
    have HBX := hid (btr HBW.out (btr V2.out BX.out))
    rw [hX, hvb]
    rw [hX] at hHeld
    clear hX hvb
    refine wpAnyH_ready (rs := [7]) (by kernel_rfl) (by simp) ?_
    refine AllReadyH.cons (o := _) rfl (fun KK hK => ?_) AllReadyH.nil
    go_simp
    go_at_call 58
    refine (CIN.out vb X (HLi.out.on HBX.out) HVX.out HVN.out).mono ?_
    rintro e v3 ⟨p', c', rfl, h1, h2, h3⟩
    have HL3 := hid h1
    have HP3 := hid h2
    have HK3 := hid h3
    have nR : ¬ OfP p R := fun e => by have := (HPB.out R e).1; have := HRR.out; omega
    have nR1 : ¬ OfP p (R + 1) := fun e => by have := (HPB.out (R + 1) e).1; have := HRR.out; omega
    have nB : ¬ OfP p B := fun e => (HPB.out B e).2 rfl
    have eR := hid (show v3.heap[R]? = Y0.heap[R]? from (h3.obj R (Nat.lt_of_lt_of_le (row_lt HLY.out) BX.out.size) nR).trans (BX.out.block R (row_lt HLY.out)))
    have eI := hid (show v3.heap[R + 1]? = Y0.heap[R + 1]? from (h3.obj (R + 1) (Nat.lt_of_lt_of_le (row_lt HIY.out) BX.out.size) nR1).trans (BX.out.block (R + 1) (row_lt HIY.out)))
    have HB3 := hid (h3.row (row_on HBY.out BX.out) nB)
    clear h1 h2 h3 nR nR1 nB
    (try go_simp)
    refine hK.out _ _ ?_ (fun hHeld => ?_)
    · (try dsimp only); exact HS.out v3 eR.out eI.out
    clear hK
    try simp only [List.getElem_toArray, List.getElem_cons_succ, List.getElem_cons_zero, Act.put, List.setIfInBounds_toArray, List.set_cons_zero, List.set_cons_succ]
    refine' wpAnyH_take (i := 8) (oi := _) (v := _) rfl (by kernel_rfl) (by kernel_rfl) (by kernel_rfl) (fun _ _ _ h => h) (Or.inl ⟨by kernel_rfl, ?_⟩) (by assumption) ?_
    rotate_left
    · (intro w hSw; (try dsimp only at hSw); go_simp; try (with_reducible rfl))
    try simp only [List.getElem_toArray, List.getElem_cons_succ, List.getElem_cons_zero, Act.put, List.setIfInBounds_toArray, List.set_cons_zero, List.set_cons_succ]
    refine wpAnyH_ready (rs := [9]) (by kernel_rfl) (by simp) ?_
    refine AllReadyH.cons (o := _) rfl (fun KK hK => ?_) AllReadyH.nil
    have kc : v3.cell? ⟨B, k, none⟩ = some (.slice p n c) := by rw [row_cell HB3.out, HKR.out, HNN.out]
    have kf := row_frz HB3.out k
    go_simp
    have nBR := hid (show R ≠ B from by have := HRR.out; omega)
    have nBI := hid (show R + 1 ≠ B from by have := HRR.out; omega)
    refine hK.out _ _ ?_ (fun hHeld => ?_)
    · (try dsimp only); exact HS.out _ ((heap_setCell_other _ _ _ _ (by show R ≠ B; exact nBR.out)).trans eR.out) ((heap_setCell_other _ _ _ _ (by show R + 1 ≠ B; exact nBI.out)).trans eI.out)
    clear hK kc kf
    try simp only [List.getElem_toArray, List.getElem_cons_succ, List.getElem_cons_zero, Act.put, List.setIfInBounds_toArray, List.set_cons_zero, List.set_cons_succ]
    refine wpAnyH_done (by kernel_rfl) ?_ _
    clear hHeld
    (try go_wp2)
    go_end0
    have hli := HL3.out
    have hkk : Kp (fun b => b = B ∨ OfP p b) w (v3.setCell ⟨B, k, none⟩ (.slice p' ne c')) := ((Kp.of (fun b => b = B ∨ OfP p b) HBX.out).trans HK3.out (fun g _ h => .inr h)).trans (Kp.set _ _ _ _) (fun g _ h => .inl h)
    exact ⟨rfl, p', c', heap_setCell_same v3 B k row 68 _ HB3.out, li_set hli HB3.out (by decide), fun g hg => (HP3.out g hg).imp id (fun h => Nat.le_trans HBX.out.size h), hkk⟩)
end Go.Proofs.Ytknikhoobhgidaa
