/-
  IndexTraces, whatever comes in.
-/
import Derived.Test.YthidnipmkffilaaArgsS
import Derived.Test.YthidnipmkffilaaIxL
import Derived.Test.YthidnipmkffilaaIxTa
import Derived.Deep.RegionHeld3
import Derived.Deep.RegionWith
namespace Go.Proofs.Ythidnipmkffilaa
open Go.RowKit Go.Deep
set_option linter.unusedVariables false
set_option linter.unusedSimpArgs false
set_option maxHeartbeats 4000000
set_option maxRecDepth 100000
attribute [local go_sem] Oper.semAt_some
theorem nilf (f : Fn) (x y : Array Value) (w : World) : Sem.run Try.prog (binOp BinOp.eql 61 (Value.func f x y) Value.nilFunc) w = .ok (.bool false) w := rfl
theorem traces_bad {room : Int} (h : room < 1 ∨ 65536 < room) (q : Option Addr) (cap m : Nat) (w : World) :
    Calls Try.prog 8 #[.int .i64 room, .slice q m cap] w fun e w' => e = .returned (.bool true) ∧ Below w.heap.size w w' := by
  have HN := hid (fun u => new_bad h u)
  have HLV := hid (lives_any ((w.alloc (.cells #[.bool false] 4)).alloc (.cells #[.pointer none] 22)))
  have sz : w.heap.size < ((w.alloc (.cells #[.bool false] 4)).alloc (.cells #[.pointer none] 22)).heap.size := by simp; omega
  have hRr : ((w.alloc (.cells #[.bool false] 4)).alloc (.cells #[.pointer none] 22)).heap[w.heap.size]? = some (.cells #[.bool false] 4 (0, 0)) := by
    rw [Below.heap_alloc _ _ _ (by simp)]; exact World.alloc_heap_new _ _
  have HBW := hid (show Below w.heap.size w ((w.alloc (.cells #[.bool false] 4)).alloc (.cells #[.pointer none] 22)) from ((Below.refl _ w).alloc (Nat.le_refl _) _).alloc (by simp) _)
  have fin : ∀ w9, Below ((w.alloc (.cells #[.bool false] 4)).alloc (.cells #[.pointer none] 22)).heap.size ((w.alloc (.cells #[.bool false] 4)).alloc (.cells #[.pointer none] 22)) w9 → w9.frozen? ⟨w.heap.size, 0, none⟩ = false ∧ (w9.setCell ⟨w.heap.size, 0, none⟩ (.bool true)).cell? ⟨w.heap.size, 0, none⟩ = some (.bool true) ∧ Below w.heap.size w (w9.setCell ⟨w.heap.size, 0, none⟩ (.bool true)) ∧ w9.cell? ⟨w.heap.size, 0, none⟩ = some (.bool false) := fun w9 hb => by
    have r9 := (hb.block _ sz).trans hRr
    refine ⟨frozen_of_row w9 _ 0 _ _ r9, ?_, (HBW.out.trans (hb.mono HBW.out.size)).setCell (by show w.heap.size ≤ w.heap.size; omega) _, row_cell r9 0⟩
    have := heap_setCell_same w9 w.heap.size 0 _ 4 (.bool true) r9
    exact row_cell this 0
  have HF := hid fin
  have cb : (decide (room < 1) = true) ∨ (decide (room < 1) = false ∧ decide (65536 < room) = true) := by
    by_cases h1 : room < 1
    · exact .inl (by simpa using h1)
    · exact .inr ⟨by simpa using h1, by simp; omega⟩
  clear fin h sz hRr HBW
  rcases cb with cb | ⟨cb, cc⟩
  all_goals
    go_enter Try.func8, Try.ntmps8
    go_wp2_with (first | (go_at_call 17; with_reducible refine (HN.out _).mono ?_; rintro e w9 ⟨rfl, h9⟩; subst w9) | (go_at_call 18; with_reducible refine (HLV.out).mono ?_; rintro e w9 ⟨rfl, hb⟩; obtain ⟨f1, f2, f3, f4⟩ := HF.out _ hb; have HB := hid f3; have HF2 := hid f2; clear f2 f3 hb; refine Hid.out ?_))
    refine hid ?_
    go_wp2_with fail
    refine bodyPost_ret (v := .bool true) (by have f2 := HF2.out; simp [results, Try.f8, go_sem, f2]) rfl ?_
    exact ⟨rfl, HB.out⟩
/-- what stands behind the loop over All. -/
structure Te (w : World) (R CY X P Y PY n room : Nat) (T T' : Ix.Tab) (N D : Nat) (W : World) : Prop where
  tq : Tq w R CY X P Y PY n room T T' W
  rN : W.heap[N]? = some (.cells #[.int .i64 (Ix.cnt T n : Nat)] 3 (0, 0))
  rD : W.heap[D]? = some (.deferred (some []))
theorem Te.on {w : World} {R CY X P Y PY n room : Nat} {T T' : Ix.Tab} {N D : Nat} {W W' : World} (h : Te w R CY X P Y PY n room T T' N D W) (b : Below W.heap.size W W') : Te w R CY X P Y PY n room T T' N D W' :=
  ⟨h.tq.on b, (b.block _ (row_lt h.rN)).trans h.rN, (b.block _ (row_lt h.rD)).trans h.rD⟩
theorem Te.cy {w : World} {R CY X P Y PY n room : Nat} {T T' : Ix.Tab} {N D : Nat} {W : World} (h : Te w R CY X P Y PY n room T T' N D W) : W.cell? ⟨CY, 0, none⟩ = some (.pointer (some ⟨Y, 0, none⟩)) := row_cell h.tq.cy 0
theorem Te.cN {w : World} {R CY X P Y PY n room : Nat} {T T' : Ix.Tab} {N D : Nat} {W : World} (h : Te w R CY X P Y PY n room T T' N D W) : W.cell? ⟨N, 0, none⟩ = some (.int .i64 (Ix.cnt T n : Nat)) := row_cell h.rN 0
theorem Te.fin {w : World} {R CY X P Y PY n room : Nat} {T T' : Ix.Tab} {N D : Nat} {W W' : World} (h : Te w R CY X P Y PY n room T T' N D W) (b : Below W.heap.size W W') (hR : w.heap.size = R) (hD : w.heap.size ≤ D) :
    W'.frozen? ⟨R, 0, none⟩ = false ∧ W'.cell? ⟨R, 0, none⟩ = some (.bool false) ∧ (W'.setCell ⟨R, 0, none⟩ (.bool true)).heap[D]? = some (.deferred (some [])) ∧
    ((W'.setCell ⟨R, 0, none⟩ (.bool true)).putObj D (.deferred none)).cell? ⟨R, 0, none⟩ = some (.bool true) ∧ Below w.heap.size w ((W'.setCell ⟨R, 0, none⟩ (.bool true)).putObj D (.deferred none)) := by
  have k := h.on b
  have ne : D ≠ R := fun e => by subst e; have := k.tq.r; rw [k.rD] at this; cases this
  have r1 := heap_setCell_same W' R 0 _ 4 (.bool true) k.tq.r
  have d1 : (W'.setCell ⟨R, 0, none⟩ (.bool true)).heap[D]? = some (.deferred (some [])) := by
    rw [heap_setCell_other _ _ _ _ (by show D ≠ R; exact ne)]; exact k.rD
  have b1 : Below w.heap.size w (W'.setCell ⟨R, 0, none⟩ (.bool true)) := k.tq.bel.setCell (by show w.heap.size ≤ R; omega) _
  refine ⟨frozen_of_row W' _ 0 _ _ k.tq.r, row_cell k.tq.r 0, d1, ?_, b1.trans (belowK_b (w := w) (Nat.le_refl _) _ D _ _ hD d1 rfl rfl)⟩
  have e2 : ((W'.setCell ⟨R, 0, none⟩ (.bool true)).putObj D (.deferred none)).heap[R]? = _ := (World.putObj_heap_other (Ne.symm ne)).trans r1
  exact row_cell e2 0
theorem traces_any {room : Nat} (h1 : 1 ≤ room) (h2 : room ≤ 65536) {w : World} (q : Option Addr) (cap : Nat) (l : List StV) (hV : Stz w q l) (hb : ∀ x ∈ l, 0 ≤ x.k ∧ x.k ≤ 18446744073709551615) (hml : l.length ≤ maxLen) :
    Calls Try.prog 8 #[.int .i64 room, .slice q l.length cap] w fun e w' => e = .returned (.bool true) ∧ Below w.heap.size w w' := by
  have HN := hid (fun u => new_any h1 h2 u)
  have HV := hid hV
  have HBD := hid hb
  unfold maxLen at hml
  have HSC := hid (show (Try.f8.body.bind rfAs).isSome = true ∧ (Try.f8.body.bind rfOf).isSome = true from ⟨rfl, rfl⟩)
  clear hV hb
  refine (callsIn_wide (n := 5)).1 ?_
  refine callsIn_of_wp_marks Try.func8 rfl trivial ?_ rfl
  refine wpIn_wide.2 ?_
  simp only [Try.ntmps8, List.size_toArray, List.length_cons, List.length_nil, Nat.reduceAdd, Nat.reduceSub, Array.replicate_succ, Array.replicate_zero, List.push_toArray, List.append_toArray, List.nil_append, List.cons_append]
  go_wp2_with (first | (go_at_call 17; with_reducible refine (HN.out _).mono ?_; rintro e w1 ⟨X, P, rfl, hL, hX, hP, hB⟩; have HX := hid (And.intro hL (And.intro hX (And.intro hP hB))); clear hL hX hP hB; refine Hid.out ?_))
  refine hid ?_
  go_wp2_with (first | (go_at_call 17; with_reducible refine (HN.out _).mono ?_; rintro e w2 ⟨Y, PY, rfl, hL, hX, hP, hB⟩; have HY := hid (And.intro hL (And.intro hX (And.intro hP hB))); clear hL hX hP hB; refine Hid.out ?_))
  clear HN
  obtain ⟨n, hn⟩ : ∃ n, pn room = n := ⟨_, rfl⟩
  rw [hn] at HX HY
  have HT := hid (show Tq w w.heap.size w2.heap.size X P Y PY n room Ix.nil Ix.nil (w2.alloc (.cells #[.pointer (some ⟨Y, 0, none⟩)] 22)) from by
    obtain ⟨a1, a2, a3, a4⟩ := HX.out
    obtain ⟨b1, b2, b3, b4⟩ := HY.out
    have s0 : (w.alloc (.cells #[.bool false] 4)).heap.size = w.heap.size + 1 := by simp
    have x1 := a1.ltX
    have x2 := a1.ltP
    have hal : Below w2.heap.size w2 (w2.alloc (.cells #[.pointer (some ⟨Y, 0, none⟩)] 22)) := (Below.refl _ w2).alloc (Nat.le_refl _) _
    have B1 : Below w.heap.size w w1 := ((Below.refl _ w).alloc (Nat.le_refl _) _).trans (a4.mono (by omega))
    have B2 : Below w.heap.size w w2 := B1.trans (b4.mono B1.size)
    have r1 : w1.heap[w.heap.size]? = some (.cells #[.bool false] 4 (0, 0)) := (a4.block _ (by omega)).trans (World.alloc_heap_new _ _)
    have r2 := (b4.block _ (row_lt r1)).trans r1
    have k0 : ∀ u v : World, Below u.heap.size u v → Kp (fun _ => False) u v := fun u v h => Kp.ofBelow _ h
    have t0 : Ix.Tidy n (hm n) Ix.nil := Ix.tidy_nil _ _
    refine ⟨(a1.kp (k0 _ _ b4) (fun h => h) (fun h => h)).kp (k0 _ _ hal) (fun h => h) (fun h => h), t0, b1.kp (k0 _ _ hal) (fun h => h) (fun h => h), t0, (hal.block _ (row_lt r2)).trans r2, World.alloc_heap_new _ _, B2.trans (hal.mono B2.size), ⟨by omega, by omega⟩, ⟨?_, ?_⟩, ⟨by omega, by omega⟩⟩
    · have := B1.size; omega
    · have := B1.size; omega)
  obtain ⟨CY, hCY⟩ : ∃ CY, w2.heap.size = CY := ⟨_, rfl⟩
  obtain ⟨R, hR⟩ : ∃ R, w.heap.size = R := ⟨_, rfl⟩
  have HWR := hid hR
  have HT' := hid (show Tq w R CY X P Y PY n room Ix.nil Ix.nil (w2.alloc (.cells #[.pointer (some ⟨Y, 0, none⟩)] 22)) from by rw [← hCY, ← hR]; exact HT.out)
  clear HX HY hn HT
  refine hid ?_
  go_wp2_with fail
  simp only [hR, hCY]
  clear hR hCY
  go_loopw [9] (fun iv wr => ∃ (i : Nat) (T : Ix.Tab), i ≤ l.length ∧ iv = .int .i64 i ∧ Hid (Tq w R CY X P Y PY n room T Ix.nil wr)) (fun iv _ => l.length - (intOf iv).toNat)
  case atStart => exact ⟨0, Ix.nil, Nat.zero_le _, rfl, HT'⟩
  case round =>
    obtain ⟨i, T, hi, rfl, HI⟩ := hrel
    clear HT'
    by_cases hin : i < l.length
    · obtain ⟨b, off, rfl, hbl, c0, c1, c2⟩ := (HV.out.on HI.out.bel).cells hin
      obtain ⟨k0, k1⟩ := HBD.out _ (List.getElem_mem hin)
      obtain ⟨x, hx⟩ : ∃ x, l[i] = x := ⟨_, rfl⟩
      rw [hx] at c0 c1 c2 k0 k1
      obtain ⟨xd, xk, xv⟩ := x
      simp only at c0 c1 c2 k0 k1
      have f1 : (i : Int) < (l.length : Int) := by omega
      have f2 : (0 : Int) ≤ (i : Int) := by omega
      have ct1 : ((i : Int)).toNat = i := by omega
      have wj : IntKind.i64.wrap ((i : Int) + 1) = ((i + 1 : Nat) : Int) := by simp [IntKind.wrap, IntKind.bits, IntKind.signed]; omega
      have HJM := hid (show i + 1 ≤ l.length ∧ l.length - (i + 1) < l.length - i by omega)
      obtain ⟨j1, hj1⟩ : ∃ j1, i + 1 = j1 := ⟨_, rfl⟩
      rw [hj1] at wj HJM
      cases xd with
      | true =>
        have HD := hid (drop_any HI.out.lx HI.out.tx xk)
        clear hx hi hin hj1 k0 k1
        go_wp2_with (first | (go_at_call 19; with_reducible refine (HD.out).mono ?_; rintro e w3 ⟨v9, b9, T', rfl, hL, ht, hk, hR⟩; have HI2 := hid (HI.out.putX hL ht hk); clear hL ht hk hR; refine Hid.out ?_))
        refine hid ?_
        go_wp2_with fail
        go_roundw
        case rel => exact ⟨j1, T', HJM.out.1, rfl, HI2⟩
        case measure => simpa [intOf] using HJM.out.2
      | false =>
        have HP := hid (fun u (hu : Lx u X P n room T) => put_any hu HI.out.tx xv k0 k1)
        have HDW := hid (HI.out.on (below_drews (b := wr.drew) rfl rfl rfl rfl))
        have HCL := hid (show ∀ u, Below w.heap.size w u → u.cell? ⟨b, off + i * 3 + 1, none⟩ = some (.int .u64 xk) ∧ u.cell? ⟨b, off + i * 3 + 2, none⟩ = some (.int .i64 xv) from fun u hu => by
          obtain ⟨b', off', e', _, _, y1, y2⟩ := (HV.out.on hu).cells hin
          cases e'
          rw [hx] at y1 y2
          exact ⟨y1, y2⟩)
        clear hx hi hin hj1 k0 k1
        go_wp2_with fail
        go_region_held3 (fun w' => w'.cell? ⟨b, off + i * 3 + 1, none⟩ = some (.int .u64 xk) ∧ w'.cell? ⟨b, off + i * 3 + 2, none⟩ = some (.int .i64 xv)) (go_keep) (first | (go_at_call 20; with_reducible refine (HP.out _ HDW.out.lx).mono ?_; rintro e w3 ⟨c9, T', rfl, hL, ht, hk, hR⟩; have HI2 := hid (HDW.out.putX hL ht hk); clear hL ht hk hR; obtain ⟨y1, y2⟩ := HCL.out _ HI2.out.bel))
        refine Hid.out ?_
        refine hid ?_
        go_wp2_with fail
        go_roundw
        case rel => exact ⟨j1, T', HJM.out.1, rfl, HI2⟩
        case measure => simpa [intOf] using HJM.out.2
    · have hn : i = l.length := by omega
      subst hn
      have f1 : ¬ (l.length : Int) < (l.length : Int) := by omega
      have HA := hid (fun u => allF_any X u)
      have NF := hid nilf
      clear hi hin
      go_wp2_with (first | (go_at_call 23; with_reducible refine (HA.out _).mono ?_; rintro e w3 ⟨rfl, h3⟩; subst w3))
      rw [NF.out]
      go_wp2_with fail
      have HB2 := hid (show Below wr.heap.size wr ((wr.alloc (.cells #[.int .i64 0] 3)).alloc (.cells #[.pointer (some ⟨X, 0, none⟩)] 22)) from ((Below.refl _ wr).alloc (Nat.le_refl _) _).alloc (by simp) _)
      refine (wpIn_wide (n := 5)).1 ?_
      refine trR R CY X P Y PY n room wr.heap.size (wr.heap.size + 1) T (has := by rfl) (hc := by rfl) _ _ _ _ _ _ _ _ _ _ _ _ _ _ _ _ _ _ _ _ _ _ _ _ _ _ _ _ _ _ _ _ _ _ _ _ _ _ _ _ _ _ _ _ _ _ _ _ _ _ _ _ _ _ _ _ _ _ _ _ _ _ _ _ _ _ _ _ _ _ _ _ _ _ _ _ _ _ _ _ _ _ _ _ _ _ _ _ _ _ _ _ _ _ _ _ _ _ _ _ _ _ _ _ _ _ _ _ _ _ _ _ _ _ _ _ _ _ _ _ _ _ _ _ _ _ _ _ _ (HI.out.on HB2.out) ?_ ?_ (HI.out.bel.size) ?_
      · rw [Below.heap_alloc _ _ _ (by simp)]; exact World.alloc_heap_new _ _
      · have := World.alloc_heap_new (wr.alloc (.cells #[.int .i64 0] 3)) (.cells #[.pointer (some ⟨X, 0, none⟩)] 22)
        simpa using this
      intro D W T' hD hTq hN hHas hcnt hDf
      obtain ⟨N, hNw⟩ : ∃ N, wr.heap.size = N := ⟨_, rfl⟩
      rw [hNw] at hN ⊢
      have HE := hid (Te.mk (D := D) hTq hN hDf)
      have HDG := hid (show w.heap.size ≤ D from Nat.le_trans (Nat.le_trans HI.out.bel.size HB2.out.size) hD)
      have HHas := hid hHas
      have HCN := hid hcnt
      clear hTq hHas hDf hD hNw HI HB2 hN hcnt
      clear HV HBD HSC NF HA
      go_wp2_with fail
      have HEd := hid (HE.out.on (below_drews (b := W.drew) rfl rfl rfl rfl))
      have HSX := hid (slots_any HEd.out.tq.lx)
      have HSY := hid (fun u (h : Hid (Te w R CY X P Y PY n room T T' N D u)) => slots_any h.out.tq.ly)
      have m0 := HE.out.cy
      go_region_held3 (fun w' => w'.cell? ⟨CY, 0, none⟩ = some (.pointer (some ⟨Y, 0, none⟩))) (go_keep) (first | (go_at_call 12; with_reducible refine (HSX.out).mono ?_; rintro e w4 ⟨S1, rfl, s1, s2, s3⟩; have HE4 := hid (HEd.out.on s3); have HS1 := hid s2; have y1 := HE4.out.cy; clear s1 s2 s3) | (go_at_call 12; with_reducible refine (HSY.out _ (by assumption)).mono ?_; rintro e w5 ⟨S2, rfl, s1, s2, s3⟩; have HE5 := hid (HE4.out.on s3); have HS5 := hid (HS1.out.on s3); have HS2 := hid s2; have y1 := HE5.out.cy; clear s1 s2 s3))
      refine Hid.out ?_
      refine hid ?_
      go_wp2_with fail
      have HE6 := hid (HE5.out.on (below_drews (b := w5.drew) rfl rfl rfl rfl))
      have HLX := hid (len_any HE6.out.tq.lx)
      have HLY := hid (len_any HE6.out.tq.ly)
      rw [HCN.out] at HLY
      have m1 := HE5.out.cy
      have m2 := HE5.out.cN
      obtain ⟨cn, hcn⟩ : ∃ cn, Ix.cnt T n = cn := ⟨_, rfl⟩
      rw [hcn] at HLX HLY m2
      go_region_held3 (fun w' => w'.cell? ⟨CY, 0, none⟩ = some (.pointer (some ⟨Y, 0, none⟩)) ∧ w'.cell? ⟨N, 0, none⟩ = some (.int .i64 (cn : Nat))) (go_keep) (first | (go_at_call 11; with_reducible refine (HLX.out).mono ?_; rintro e w6 ⟨rfl, h9⟩; subst w6) | (go_at_call 11; with_reducible refine (HLY.out).mono ?_; rintro e w6 ⟨rfl, h9⟩; subst w6))
      refine Hid.out ?_
      refine hid ?_
      go_wp2_with fail
      have HCMP := hid (show ∀ i, i < n → eU (T' i) = eU (T i) from fun i hi => by
        have tx := HE5.out.tq.tx
        have ty := HE5.out.tq.ty
        have hp := us_perm tx ty HHas.out
        have lx := HE5.out.tq.lx
        have hlt : Ix.cnt T n < n := by have := lx.le; have := lx.two; have := lx.one; omega
        have hh : ∀ k, hm n k < n := fun k => hm_lt (by have := lx.pos; omega) k
        have a := Ix.same_used tx ty hh hp (by rw [HCN.out]; exact hlt) hi
        have b := Ix.same_used ty tx hh hp.symm hlt hi
        cases h1 : T i with
        | none => rw [a h1]
        | some x =>
          cases h2 : T' i with
          | none => rw [b h2] at h1; cases h1
          | some y => rfl)
      have HS51 := hid (HS5.out.on (below_drews (b := w5.drew) rfl rfl rfl rfl))
      have HS52 := hid (HS2.out.on (below_drews (b := w5.drew) rfl rfl rfl rfl))
      have hn17 : n ≤ 131072 := HE6.out.tq.lx.most
      clear HS5 HS2 HS1 HE5 HLX HLY HCN m0 m1 m2 HE HEd HSX HSY HE4 HHas
      go_loopw [16] (fun iv wr => ∃ i : Nat, i ≤ n ∧ iv = .int .i64 i ∧ Hid (Te w R CY X P Y PY n room T T' N D wr) ∧ Hid (Sl wr S1 n T n) ∧ Hid (Sl wr S2 n T' n)) (fun iv _ => n - (intOf iv).toNat)
      case atStart => exact ⟨0, Nat.zero_le _, rfl, HE6, HS51, HS52⟩
      case round =>
        clear HE6 HS51 HS52
        obtain ⟨i, hi, rfl, HE6, HS51, HS52⟩ := hrel
        by_cases hin : i < n
        · have c1 := (HS51.out.cell hin hin).1
          have c2 := (HS52.out.cell hin hin).1
          rw [HCMP.out i hin] at c2
          obtain ⟨bb, hbb⟩ : ∃ bb, eU (T i) = bb := ⟨_, rfl⟩
          rw [hbb] at c1 c2
          have f1 : (i : Int) < (n : Int) := by omega
          have f2 : (0 : Int) ≤ (i : Int) := by omega
          have ct1 : ((i : Int)).toNat = i := by omega
          have wj : IntKind.i64.wrap ((i : Int) + 1) = ((i + 1 : Nat) : Int) := by simp [IntKind.wrap, IntKind.bits, IntKind.signed]; omega
          have HJM := hid (show i + 1 ≤ n ∧ n - (i + 1) < n - i by omega)
          obtain ⟨j1, hj1⟩ : ∃ j1, i + 1 = j1 := ⟨_, rfl⟩
          rw [hj1] at wj HJM
          clear hi hin hj1 hbb
          cases bb
          all_goals
            go_wp2_with fail
            go_quiet (fail)
            go_wp2_with fail
            go_roundw
            case rel => exact ⟨j1, HJM.out.1, rfl, hid (HE6.out.on (below_drews rfl rfl rfl rfl)), hid (HS51.out.on (below_drews rfl rfl rfl rfl)), hid (HS52.out.on (below_drews rfl rfl rfl rfl))⟩
            case measure => simpa [intOf] using HJM.out.2
        · have hn : i = n := by omega
          subst hn
          have f1 : ¬ (i : Int) < (i : Int) := by omega
          have HLV := hid (lives_any wr)
          have HWR' := hid (HWR.out)
          clear hi hin hn17 HS51 HS52 HCMP
          go_wp2_with (first | (go_at_call 18; with_reducible refine (HLV.out).mono ?_; rintro e w9 ⟨rfl, hb⟩; obtain ⟨g1, g2, g3, g4, g5⟩ := HE6.out.fin hb HWR.out HDG.out; have HF := hid (And.intro g3 (And.intro g4 g5)); clear hb g3 g4 g5; refine Hid.out ?_))
          refine hid ?_
          go_wp2_with fail
          refine ⟨by simp, .inl ⟨_, _, rfl, run_takeDeferred HF.out.1, ?_⟩⟩
          have h3 := HF.out.2.1
          refine ⟨.bool true, ?_, rfl, HF.out.2.2⟩
          simp [results, Try.f8, go_sem, h3]
theorem indexTraces_walk (a : Int) (ha : -9223372036854775808 ≤ a ∧ a < 9223372036854775808) {w : World} (q : Option Addr) (cap : Nat) (l : List StV) (hV : Stz w q l) (hb : ∀ x ∈ l, 0 ≤ x.k ∧ x.k ≤ 18446744073709551615) (hm : l.length ≤ maxLen) :
    Calls Try.prog 8 #[.int .i64 a, .slice q l.length cap] w fun e w' => e = .returned (.bool true) ∧ Below w.heap.size w w' := by
  by_cases h : a < 1 ∨ 65536 < a
  · exact traces_bad h q cap l.length w
  · obtain ⟨r, rfl⟩ := Int.eq_ofNat_of_zero_le (show 0 ≤ a by omega)
    exact traces_any (by omega) (by omega) q cap l hV hb hm
end Go.Proofs.Ythidnipmkffilaa
