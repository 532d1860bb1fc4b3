/-
  The prices that may be chosen.
-/
import Derived.Test.YtnmkfdndfhefiaaGreatGa
import Derived.Test.YtnmkfdndfhefiaaGreatShelf
import Derived.Lib.OwnBridge
namespace Go.Proofs.YtnmkfdndfhefiaaGreat
open Go.RowKit Go.Deep Go.Sort
set_option linter.unusedVariables false
set_option linter.unusedSimpArgs false
set_option maxHeartbeats 2000000
set_option maxRecDepth 100000
/-- whole numbers in a slice of one's own. -/
def OwI (base : Nat) (w : World) (p : Option Addr) (c : Nat) (zs : List Int) : Prop := w.ownsRow base 3 1 (.slice p zs.length c) zs.length (zs.map (Value.int .i64))
theorem OwI.on {base : Nat} {w w' : World} {p : Option Addr} {c : Nat} {zs : List Int} (h : OwI base w p c zs) (hb : Below w.heap.size w w') : OwI base w' p c zs := own_on h hb
theorem ints_one (zs : List Int) : ∀ u ∈ zs.map (Value.int .i64), u.oneCell' = true := by
  intro u hu
  obtain ⟨x, _, rfl⟩ := List.mem_map.1 hu
  rfl
theorem made1 (U : World) (t : TypeId) (v : Value) : (U.alloc (.cells #[v] t)).ownsRow 0 t 1 (.slice (some ⟨U.heap.size, 0, none⟩) 1 1) 1 [v] :=
  ⟨rfl, .inr ⟨U.heap.size, 1, #[v], rfl, Nat.zero_le _, World.alloc_heap_new _ _, Nat.le_refl _, by unfold maxLen; omega, rfl, rfl⟩⟩
theorem kp_putRow {α : Type} [Inhabited α] {enc : α → Value} {w : World} {g q : Nat} {d : Array α} : Kp (fun b => b = g) w (putRow enc (Sort.ahead w q) g 0 d) :=
  ⟨rfl, rfl, rfl, by simp [putRow, mapBlock, Sort.ahead], fun b hb hN => by
    have : g ≠ b := fun e => hN e.symm
    simp [putRow, mapBlock, Sort.ahead, Array.getElem?_modify, this]⟩
theorem below_grow (w : World) (os : Array Obj) : Below w.heap.size w (grow w os) := ⟨rfl, rfl, rfl, by simp [grow], fun b hb => by simp [grow, Array.getElem?_append_left hb]⟩
/-- rising. -/
def srt (zs : List Int) : List Int := zs.mergeSort fun x y => decide (x ≤ y)
theorem srt_len (zs : List Int) : (srt zs).length = zs.length := by simp [srt, List.length_mergeSort]
theorem sort_own (base : Nat) (p : Option Addr) (c : Nat) (zs : List Int) (w : World) (h : OwI base w p c zs) (h0 : 0 < zs.length) (h1 : zs.length ≤ 16384) :
    Calls Tryz.prog 80 #[.slice p zs.length c] w fun e w' => e = .returned (.tuple #[]) ∧ OwI base w' p c (srt zs) ∧ Kp (OfP p) w w' := by
  obtain ⟨g, cap, e, hb, hlt, hn, hm, hl, hH⟩ := Lib.holds_of_ownsRow h (by intro e; injection e with _ e2 _; omega)
  obtain ⟨rfl, _, rfl⟩ := Value.slice.inj e
  refine (Tryz.slices_Sort_int g 0 c zs w hH hlt (by omega)).mono ?_
  rintro e w' ⟨rfl, n, os, rfl⟩
  have e1 := Lib.ownsRow_putRow (q := n) (k := zs.length) (ys := srt zs) h (srt_len zs) (Nat.le_refl _)
  rw [List.take_of_length_le (by rw [srt_len]; exact Nat.le_refl _)] at e1
  have k1 : Kp (fun b => b = g) w (putRow (Value.int .i64) (Sort.ahead w n) g 0 (srt zs).toArray) := kp_putRow
  have k2 := below_grow (putRow (Value.int .i64) (Sort.ahead w n) g 0 (srt zs).toArray) os
  refine ⟨rfl, ?_, (k1.trans (Kp.of (fun b => b = g) k2) (fun _ _ h => h)).mono (fun b _ e => by rw [e]; exact OfP.mk g)⟩
  unfold OwI
  rw [srt_len]
  exact own_on e1 k2
/-- each one once. -/
def cpt (zs : List Int) : List Int := Lib.compact zs
theorem cpt_le (zs : List Int) : (cpt zs).length ≤ zs.length := by
  have go : ∀ m, (Lib.compactUpTo zs.toArray m).length ≤ m := by
    intro m
    induction m with
    | zero => simp [Lib.compactUpTo]
    | succ m ih => rw [Lib.compactUpTo_succ, List.length_append]; split <;> simp <;> omega
  exact go zs.length
theorem compact_own (base : Nat) (p : Option Addr) (c : Nat) (zs : List Int) (w : World) (h : OwI base w p c zs) (h0 : 0 < zs.length) (h1 : zs.length ≤ 16384) :
    Calls Tryz.prog 81 #[.slice p zs.length c] w fun e w' => e = .returned (.slice p (cpt zs).length c) ∧ OwI base w' p c (cpt zs) ∧ Kp (OfP p) w w' := by
  obtain ⟨g, cap, e, hb, hlt, hn, hm, hl, hH⟩ := Lib.holds_of_ownsRow h (by intro e; injection e with _ e2 _; omega)
  obtain ⟨rfl, _, rfl⟩ := Value.slice.inj e
  refine (Tryz.slices_Compact_int g 0 c zs w hH (by omega) hn).mono ?_
  rintro e w' ⟨rfl, n, rfl⟩
  have hc := cpt_le zs
  have e1 := Lib.ownsRow_putRow (q := n) (k := (cpt zs).length) (ys := cpt zs ++ List.replicate (zs.length - (cpt zs).length) 0) h (by simp; omega) hc
  rw [List.take_append_of_le_length (Nat.le_refl _), List.take_of_length_le (Nat.le_refl _)] at e1
  refine ⟨rfl, e1, Kp.mono (kp_putRow (g := g)) (fun b _ e => by rw [e]; exact OfP.mk g)⟩
/-- the prices of Limits. -/
def lp (l : List It) : List Int := (l.filter fun x => x.ty == 1).map (·.pr)
theorem lp_le (l : List It) : (lp l).length ≤ l.length := by simp [lp]; exact List.length_filter_le _ _
theorem lp_take {l : List It} {i : Nat} (hi : i < l.length) : lp (l.take (i + 1)) = lp (l.take i) ++ (if l[i].ty = 1 then [l[i].pr] else []) := by
  rw [List.take_succ_eq_append_getElem hi]
  unfold lp
  rw [List.filter_append, List.map_append]
  by_cases h : l[i].ty = 1 <;> simp [h, List.filter_cons]
theorem info3 : (Tryz.prog.info? 3).map (fun i => (i.zero, i.size, i.bytes)) = some (some (.int .i64 0), 1, 8) := by kernel_rfl
theorem index2 (a : Array Value) (i : Nat) (v : Value) (w : World) (hi : i < 2) (hv : a[i]? = some v) : (Instr.index 72 (.agg a) (.int .i64 (i : Int))).run Tryz.prog w = .ok v w := by
  have u29 := Tryz.underlying72
  have a28 := Tryz.isAgg71
  have z28 := Tryz.sizeOf71
  simp [Instr.index, asIntOf, run_underlying u29, part, a28, z28, hv, hi, Sem.run_bind, Result.andThen]
/-- all prices that may be chosen, rising, each once. -/
def pcs (r : Int) (b s : List It) : List Int := cpt (srt (r :: lp b ++ lp s))
theorem one_own (wr : World) (R : Array Value) (v : Value) : ((wr.alloc (.cells R 35)).alloc (.cells #[v] 3)).ownsRow 0 3 1 (.slice (some ⟨wr.heap.size + 1, 0, none⟩) 1 1) 1 [v] := by
  have := made1 (wr.alloc (.cells R 35)) 3 v
  simpa using this
theorem prices_any (B : Nat) (r m : Int) (p1 : Option Addr) (c1 : Nat) (b : List It) (p2 : Option Addr) (c2 : Nat) (s : List It) (w : World) (h : Cl w B r m p1 c1 b p2 c2 s) :
    Calls Tryz.prog 61 #[.pointer (some ⟨B, 0, none⟩)] w fun e w' => ∃ p c, e = .returned (.slice p (pcs r b s).length c) ∧ OwI w.heap.size w' p c (pcs r b s) ∧ Below w.heap.size w w' := by
  obtain ⟨k0, k1, k2, k3⟩ := h.cells
  have hb := h.s1.ln
  have hs := h.s2.ln
  have HL1 := hid h.l1
  have HL2 := hid h.l2
  obtain ⟨n1, hn1⟩ : ∃ n, b.length = n := ⟨_, rfl⟩
  obtain ⟨n2, hn2⟩ : ∃ n, s.length = n := ⟨_, rfl⟩
  have HN1 := hid hn1
  have HN2 := hid hn2
  have sB := row_lt h.row
  rw [hn1] at k2 hb
  rw [hn2] at k3 hs
  have i0 : ∀ U, (Instr.index 72 (.agg #[.slice p1 n1 c1, .slice p2 n2 c2]) (.int .i64 0)).run Tryz.prog U = .ok (.slice p1 n1 c1) U := fun U => index2 _ 0 _ U (by omega) rfl
  have i1 : ∀ U, (Instr.index 72 (.agg #[.slice p1 n1 c1, .slice p2 n2 c2]) (.int .i64 1)).run Tryz.prog U = .ok (.slice p2 n2 c2) U := fun U => index2 _ 1 _ U (by omega) rfl
  have CS := hid (fun (zs : List Int) p c (U : World) (hU : OwI w.heap.size U p c zs) (h0 : 0 < zs.length) (h1 : zs.length ≤ 16384) => sort_own w.heap.size p c zs U hU h0 h1)
  have CC := hid (fun (zs : List Int) p c (U : World) (hU : OwI w.heap.size U p c zs) (h0 : 0 < zs.length) (h1 : zs.length ≤ 16384) => compact_own w.heap.size p c zs U hU h0 h1)
  have HB0 := hid (ball w (.cells #[.int .i64 r] 3))
  have HW0 := hid (show OwI w.heap.size (w.alloc (.cells #[.int .i64 r] 3)) (some ⟨w.heap.size, 0, none⟩) 1 [r] from ⟨rfl, .inr ⟨w.heap.size, 1, #[.int .i64 r], rfl, Nat.le_refl _, World.alloc_heap_new _ _, Nat.le_refl _, by unfold maxLen; omega, rfl, rfl⟩⟩)
  clear h hn1 hn2
  go_enter Tryz.func61, Tryz.ntmps61
  go_wp2
  go_loopw [17, 3] (fun iv lv wr => ∃ (p : Option Addr) (c nz : Nat) (zs : List Int), lv = .slice p nz c ∧ Hid (zs.length = nz) ∧ Hid (OwI w.heap.size wr p c zs) ∧ Hid (Below w.heap.size w wr) ∧ ((iv = .int .i64 0 ∧ Hid (zs = [r])) ∨ (iv = .int .i64 1 ∧ Hid (zs = r :: lp b)) ∨ (iv = .int .i64 2 ∧ Hid (zs = r :: lp b ++ lp s)))) (fun iv _ _ => 2 - (intOf iv).toNat)
  case atStart => exact ⟨_, _, 1, [r], rfl, hid rfl, HW0, HB0, .inl ⟨rfl, hid rfl⟩⟩
  case round =>
    obtain ⟨p, c, nz, zs, rfl, HZ, HW, HB, ⟨rfl, HE⟩ | ⟨rfl, HE⟩ | ⟨rfl, HE⟩⟩ := hrel
    · have hzl : nz ≤ 4097 := by
        have a1 := lp_le b
        have a3 := HN1.out
        rw [← HZ.out, HE.out]; simp; try omega
      clear k0 k1 k2 k3
      go_wp2
      go_loopw [22, 3] (fun jv lv wq => ∃ (j : Nat) (q : Option Addr) (d ny : Nat) (ys : List Int), j ≤ n1 ∧ jv = .int .i64 j ∧ lv = .slice q ny d ∧ Hid (ys.length = ny) ∧ ny ≤ nz + j ∧ Hid (OwI w.heap.size wq q d ys) ∧ Hid (Below w.heap.size w wq) ∧ Hid (ys = zs ++ lp (b.take j))) (fun jv _ _ => n1 - (intOf jv).toNat)
      case atStart => exact ⟨0, p, c, nz, zs, Nat.zero_le _, rfl, rfl, HZ, by omega, HW, HB, hid (by simp [lp])⟩
      case round =>
        obtain ⟨j, q, d, ny, ys, hj, rfl, rfl, HY, hny, HV, HU, HX⟩ := hrel
        by_cases hlt : j < n1
        · have hjl : j < b.length := by rw [HN1.out]; exact hlt
          obtain ⟨g, hp, a0, a1, a2, a3, a4, a5⟩ := (HL1.out.on HU.out).cells hjl
          subst hp
          have HT := hid (lp_take hjl)
          obtain ⟨z, hz⟩ : ∃ z, b[j] = z := ⟨_, rfl⟩
          rw [hz] at a0 a1 a2 a3 a4 a5 HT
          have j0 : (0 : Int) ≤ (j : Int) := by omega
          have j1 : (j : Int) < (n1 : Int) := by omega
          clear hz
          by_cases ht : z.ty = 1
          · have q1 : (z.ty == 1) = true := by simpa using ht
            have HTY := hid ht
            clear ht
            obtain ⟨R, hR⟩ : ∃ R : Array Value, #[.int .u64 z.id, .int .u32 z.mb, .int .i64 z.sd, .int .i64 z.ty, .int .i64 z.pr, .int .u64 z.qt] = R := ⟨_, rfl⟩
            have HB2 := hid (show Below wr.heap.size wr ((wr.alloc (.cells #[.int .u64 z.id, .int .u32 z.mb, .int .i64 z.sd, .int .i64 z.ty, .int .i64 z.pr, .int .u64 z.qt] 35)).alloc (.cells #[.int .i64 z.pr] 3)) from btr (ball _ _) (ball _ _))
            have HOW := hid (HV.out.on HB2.out)
            unfold OwI at HOW
            rw [HY.out] at HOW
            have HON := hid (one_own wr #[.int .u64 z.id, .int .u32 z.mb, .int .i64 z.sd, .int .i64 z.ty, .int .i64 z.pr, .int .u64 z.qt] (.int .i64 z.pr))
            have hsz := HU.out.size
            clear hR
            go_wp2_with (at_builtin; refine wpList_app_mine (by rfl) (.tmp 29) (.tmp 32) 104 3 _ 1 8 (by rfl) Tryz.underlying104 info3 rfl (by decide) w.heap.size 0 _ ny _ (by rfl) HOW.out _ 1 1 _ (by rfl) HON.out (by intro u hu; simp at hu; subst hu; rfl) (by unfold maxLen; omega) (by omega) (by simp; omega) ?_; intro v' w' hown hgrow; obtain ⟨p9, q9, rfl⟩ := own_form hown; have HO1 := hid hown; have HG1 := hid hgrow; clear hown hgrow)
            go_roundw
            case rel =>
              have e1 : ys.map (Value.int .i64) ++ [.int .i64 z.pr] = (ys ++ [z.pr]).map (Value.int .i64) := by simp
              have hO := HO1.out
              rw [e1] at hO
              refine ⟨j + 1, p9, q9, ny + 1, ys ++ [z.pr], by omega, by go_num, rfl, hid (by simp [HY.out]), by omega, hid (by unfold OwI; rw [List.length_append, HY.out]; exact hO), hid ((btr HU.out HB2.out).grown HG1.out (by simp; omega) (fun k hk => ?_)), hid (by rw [HT.out, if_pos HTY.out, HX.out, List.append_assoc])⟩
              obtain ⟨_, ⟨e5, _⟩ | ⟨g', c', cur, e5, r1, _⟩⟩ := HOW.out
              · rw [e5] at hk; cases hk
              · rw [e5] at hk; cases hk; exact r1
            case measure => simp [intOf]; omega
          · have q1 : (z.ty == 1) = false := by simpa using ht
            have HTY := hid ht
            clear ht
            go_wp2
            go_roundw
            case rel =>
              exact ⟨j + 1, q, d, ny, ys, by omega, by go_num, rfl, HY, by omega, hid (HV.out.on (ball _ _)), hid (btr HU.out (ball _ _)), hid (by rw [HT.out, if_neg HTY.out, List.append_nil]; exact HX.out)⟩
            case measure => simp [intOf]; omega
        · obtain rfl : j = n1 := by omega
          go_wp2
          go_roundw
          case rel =>
            have e2 : b.take j = b := List.take_of_length_le (by rw [HN1.out]; exact Nat.le_refl _)
            exact ⟨q, d, ny, ys, rfl, HY, HV, HU, .inr (.inl ⟨by go_num, hid (by rw [HX.out, e2, HE.out]; rfl)⟩)⟩
          case measure => simp [intOf]
    · have hzl : nz ≤ 4097 := by
        have a1 := lp_le b
        have a3 := HN1.out
        rw [← HZ.out, HE.out]; simp; try omega
      clear k0 k1 k2 k3
      go_wp2
      go_loopw [22, 3] (fun jv lv wq => ∃ (j : Nat) (q : Option Addr) (d ny : Nat) (ys : List Int), j ≤ n2 ∧ jv = .int .i64 j ∧ lv = .slice q ny d ∧ Hid (ys.length = ny) ∧ ny ≤ nz + j ∧ Hid (OwI w.heap.size wq q d ys) ∧ Hid (Below w.heap.size w wq) ∧ Hid (ys = zs ++ lp (s.take j))) (fun jv _ _ => n2 - (intOf jv).toNat)
      case atStart => exact ⟨0, p, c, nz, zs, Nat.zero_le _, rfl, rfl, HZ, by omega, HW, HB, hid (by simp [lp])⟩
      case round =>
        obtain ⟨j, q, d, ny, ys, hj, rfl, rfl, HY, hny, HV, HU, HX⟩ := hrel
        by_cases hlt : j < n2
        · have hjl : j < s.length := by rw [HN2.out]; exact hlt
          obtain ⟨g, hp, a0, a1, a2, a3, a4, a5⟩ := (HL2.out.on HU.out).cells hjl
          subst hp
          have HT := hid (lp_take hjl)
          obtain ⟨z, hz⟩ : ∃ z, s[j] = z := ⟨_, rfl⟩
          rw [hz] at a0 a1 a2 a3 a4 a5 HT
          have j0 : (0 : Int) ≤ (j : Int) := by omega
          have j1 : (j : Int) < (n2 : Int) := by omega
          clear hz
          by_cases ht : z.ty = 1
          · have q1 : (z.ty == 1) = true := by simpa using ht
            have HTY := hid ht
            clear ht
            obtain ⟨R, hR⟩ : ∃ R : Array Value, #[.int .u64 z.id, .int .u32 z.mb, .int .i64 z.sd, .int .i64 z.ty, .int .i64 z.pr, .int .u64 z.qt] = R := ⟨_, rfl⟩
            have HB2 := hid (show Below wr.heap.size wr ((wr.alloc (.cells #[.int .u64 z.id, .int .u32 z.mb, .int .i64 z.sd, .int .i64 z.ty, .int .i64 z.pr, .int .u64 z.qt] 35)).alloc (.cells #[.int .i64 z.pr] 3)) from btr (ball _ _) (ball _ _))
            have HOW := hid (HV.out.on HB2.out)
            unfold OwI at HOW
            rw [HY.out] at HOW
            have HON := hid (one_own wr #[.int .u64 z.id, .int .u32 z.mb, .int .i64 z.sd, .int .i64 z.ty, .int .i64 z.pr, .int .u64 z.qt] (.int .i64 z.pr))
            have hsz := HU.out.size
            clear hR
            go_wp2_with (at_builtin; refine wpList_app_mine (by rfl) (.tmp 29) (.tmp 32) 104 3 _ 1 8 (by rfl) Tryz.underlying104 info3 rfl (by decide) w.heap.size 0 _ ny _ (by rfl) HOW.out _ 1 1 _ (by rfl) HON.out (by intro u hu; simp at hu; subst hu; rfl) (by unfold maxLen; omega) (by omega) (by simp; omega) ?_; intro v' w' hown hgrow; obtain ⟨p9, q9, rfl⟩ := own_form hown; have HO1 := hid hown; have HG1 := hid hgrow; clear hown hgrow)
            go_roundw
            case rel =>
              have e1 : ys.map (Value.int .i64) ++ [.int .i64 z.pr] = (ys ++ [z.pr]).map (Value.int .i64) := by simp
              have hO := HO1.out
              rw [e1] at hO
              refine ⟨j + 1, p9, q9, ny + 1, ys ++ [z.pr], by omega, by go_num, rfl, hid (by simp [HY.out]), by omega, hid (by unfold OwI; rw [List.length_append, HY.out]; exact hO), hid ((btr HU.out HB2.out).grown HG1.out (by simp; omega) (fun k hk => ?_)), hid (by rw [HT.out, if_pos HTY.out, HX.out, List.append_assoc])⟩
              obtain ⟨_, ⟨e5, _⟩ | ⟨g', c', cur, e5, r1, _⟩⟩ := HOW.out
              · rw [e5] at hk; cases hk
              · rw [e5] at hk; cases hk; exact r1
            case measure => simp [intOf]; omega
          · have q1 : (z.ty == 1) = false := by simpa using ht
            have HTY := hid ht
            clear ht
            go_wp2
            go_roundw
            case rel =>
              exact ⟨j + 1, q, d, ny, ys, by omega, by go_num, rfl, HY, by omega, hid (HV.out.on (ball _ _)), hid (btr HU.out (ball _ _)), hid (by rw [HT.out, if_neg HTY.out, List.append_nil]; exact HX.out)⟩
            case measure => simp [intOf]; omega
        · obtain rfl : j = n2 := by omega
          go_wp2
          go_roundw
          case rel =>
            have e2 : s.take j = s := List.take_of_length_le (by rw [HN2.out]; exact Nat.le_refl _)
            exact ⟨q, d, ny, ys, rfl, HY, HV, HU, .inr (.inr ⟨by go_num, hid (by rw [HX.out, e2, HE.out])⟩)⟩
          case measure => simp [intOf]
    · have hz0 : 0 < zs.length := by rw [HE.out]; simp
      have hz1 : zs.length ≤ 16384 := by
        have a1 := lp_le b
        have a2 := lp_le s
        have a3 := HN1.out
        have a4 := HN2.out
        rw [HE.out]; simp; omega
      have C1 := hid (CS.out zs p c wr HW.out hz0 hz1)
      rw [HZ.out] at C1
      clear hz0 hz1
      go_upto_region 13 with (go_at_call 80; with_reducible refine (C1.out).mono ?_; rintro e w1 ⟨rfl, ho, hk⟩; have HO := hid ho; have HK := hid hk; clear ho hk)
      have hz0 : 0 < (srt zs).length := by rw [srt_len, HE.out]; simp
      have hz1 : (srt zs).length ≤ 16384 := by
        have a1 := lp_le b
        have a2 := lp_le s
        have a3 := HN1.out
        have a4 := HN2.out
        rw [srt_len, HE.out]; simp; omega
      have C2 := hid (CC.out (srt zs) p c w1 HO.out hz0 hz1)
      rw [srt_len, HZ.out] at C2
      clear hz0 hz1
      go_wp2_with (go_at_call 81; with_reducible refine (C2.out).mono ?_; rintro e w2 ⟨rfl, ho, hk⟩; have HO2 := hid ho; have HK2 := hid hk; clear ho hk)
      go_ret
      have hown := HW.out
      have hp : ∀ g, OfP p g → w.heap.size ≤ g := fun g hg => by
        subst hg
        obtain ⟨_, ⟨e1, _⟩ | ⟨g', c', cur, e1, r1, _⟩⟩ := hown
        · cases (Value.slice.inj e1).1
        · have := (Value.slice.inj e1).1
          injection this with this
          injection this with this
          omega
      have e9 : cpt (srt zs) = pcs r b s := by rw [HE.out]; rfl
      have hk := (HK.out.trans HK2.out (fun _ _ h => h)).below (n := w.heap.size) HB.out.size (fun g hg hP => by have := hp g hP; omega)
      exact ⟨p, c, by rw [← e9]; rfl, by rw [← e9]; exact HO2.out, HB.out.trans hk⟩
end Go.Proofs.YtnmkfdndfhefiaaGreat
