/-
  Clone, same.
-/
import Derived.Test.YtcbfgodknonefaaDoorBoA
import Derived.Test.YtcbfgodknonefaaDoorBmW
namespace Go.Proofs.YtcbfgodknonefaaDoor
open Go.RowKit Go.Deep Bt
set_option linter.unusedVariables false
set_option maxRecDepth 100000
set_option maxHeartbeats 2000000

theorem info28s : (Tryd.prog.info? 28).map (·.size) = some 4161 := by kernel_rfl
theorem clone_any (b : Nat) (S : Nat → Bool) (w : World) (hB : Bm w b S) :
    Calls Tryd.prog 14 #[.pointer (some ⟨b, 0, none⟩)] w fun e w' => e = .returned (.pointer (some ⟨w.heap.size, 0, none⟩)) ∧ Bm w' w.heap.size S ∧ Below w.heap.size w w' := by
  obtain ⟨row, r1, r2, r3⟩ := hB
  have R1 := row_one r2 r3
  have I1 : (Tryd.prog.info? 28).map (·.size) = some row.size := by rw [r2]; exact info28s
  have Z1 : zrow.size = row.size := by rw [r2]; exact Array.size_replicate
  have al : (w.alloc (.cells zrow 28)).heap[w.heap.size]? = some (.cells zrow 28 (0, 0)) := World.alloc_heap_new _ _
  have W1 : ((w.alloc (.cells zrow 28)).setRow w.heap.size row).heap[w.heap.size]? = some (.cells row 28 (0, 0)) := setRow_heap _ _ _ _ _ _ al
  have HC4 := hid (show Bm ((w.alloc (.cells zrow 28)).setRow w.heap.size row) w.heap.size S from ⟨row, W1, r2, r3⟩)
  have W2 : ∀ j, j < w.heap.size → ((w.alloc (.cells zrow 28)).setRow w.heap.size row).heap[j]? = w.heap[j]? := fun j hj => by
    rw [setRow_other _ _ _ _ (by omega), Below.heap_alloc _ _ _ hj]
  have B4 := hid (show Below w.heap.size w ((w.alloc (.cells zrow 28)).setRow w.heap.size row) from ⟨rfl, rfl, rfl, by simp, W2⟩)
  have AL := hid al
  have RR1 := hid r1
  have RO := hid R1
  have II := hid I1
  have ZZ := hid Z1
  clear r1 r2 r3 R1 I1 Z1 al W1 W2
  have hz := run_zero28
  go_enter Tryd.func14, Tryd.ntmps14
  go_wp2_with (first
    | (refine wpList_load_row (by rfl) 28 (.tmp 5) (by rfl) b (by rfl) 28 row (0, 0) _ RR1.out Tryd.underlying28 rfl II.out ?_)
    | (refine wpList_store_row (by rfl) 28 (.tmp 3) (.tmp 6) (by rfl) w.heap.size row (by rfl) (by rfl) 28 zrow AL.out II.out ZZ.out RO.out ?_))
  go_ret
  exact ⟨rfl, HC4.out, B4.out⟩
theorem tks_eq (S T : Nat → Bool) (n : Nat) : tks S n = tks T n ↔ ∀ x, x < n → S x = T x := by
  constructor
  · intro h x hx
    have h1 : x ∈ tks S n ↔ x ∈ tks T n := by rw [h]
    unfold tks at h1
    simp only [List.mem_filter, List.mem_range, hx, true_and] at h1
    cases hS : S x <;> cases hT : T x <;> simp_all
  · intro h
    unfold tks
    exact List.filter_congr (fun x hx => h x (by simpa using hx))
theorem cast_inj {l m : List Nat} (h : l.map (fun (x : Nat) => (x : Int)) = m.map (fun (x : Nat) => (x : Int))) : l = m := by
  induction l generalizing m with
  | nil => cases m with
    | nil => rfl
    | cons a m => simp at h
  | cons b l ih => cases m with
    | nil => simp at h
    | cons a m =>
      simp only [List.map_cons, List.cons.injEq] at h
      rw [ih h.2]
      congr 1
      omega
theorem tl_same (S T : Nat → Bool) : tl S = tl T ↔ lows S = lows T := by
  rw [lows_eq, ← tks_eq]
  exact ⟨fun h => cast_inj h, fun h => congrArg (List.map fun (x : Nat) => (x : Int)) h⟩
theorem same_any (p q : Option Addr) (c1 c2 : Nat) (l m : List Int) (w : World) (hl : Lr w p l) (hm : Lr w q m) (hn : l.length ≤ 262144) (hn2 : m.length ≤ 262144) :
    Calls Tryd.prog 16 #[.slice p l.length c1, .slice q m.length c2] w fun e w' => e = .returned (.bool (decide (l = m))) ∧ Below w.heap.size w w' := by
  by_cases hlen : l.length = m.length
  · have HL := hid hl
    have HM := hid hm
    have HE := hid hlen
    obtain ⟨n, hnn⟩ : ∃ n, m.length = n := ⟨_, rfl⟩
    have hll : l.length = n := by rw [hlen, hnn]
    rw [hll, hnn]
    rw [hll] at hn
    have HNL := hid hll
    have HNM := hid hnn
    have b1 : (n : Int) ≤ 262144 := by omega
    have e1 : ((n : Int) != (n : Int)) = false := by simp
    clear hl hm hlen hnn hll hn hn2
    go_enter Tryd.func16, Tryd.ntmps16
    go_wp2_with fail
    go_loopw [5] (fun iv wr => ∃ i : Nat, i ≤ n ∧ iv = .int .i64 i ∧ Hid (Below w.heap.size w wr) ∧ Hid (l.take i = m.take i)) (fun iv _ => n - (intOf iv).toNat)
    case atStart => exact ⟨0, Nat.zero_le _, rfl, Below.refl _ _, rfl⟩
    case round =>
      obtain ⟨i, hi, rfl, HB, HT⟩ := hrel
      by_cases hin : i = n
      · have hin' := hin.symm
        subst hin'
        have d1 : decide ((n : Int) < (n : Int)) = false := by simp
        have HEQ := hid (show l = m from by
          have h1 := HT.out
          rw [List.take_of_length_le (by rw [HNL.out]; omega), List.take_of_length_le (by rw [HNM.out]; omega)] at h1
          exact h1)
        clear hi hin
        go_wp2_with fail
        go_ret
        exact ⟨by simp [HEQ.out], HB.out⟩
      · have hil : i < l.length := by rw [HNL.out]; omega
        have him : i < m.length := by rw [HNM.out]; omega
        obtain ⟨g1, rfl, hc1⟩ := HL.out i hil
        obtain ⟨g2, rfl, hc2⟩ := HM.out i him
        have hb := (HB.out.trans (Below.mono (below_drews (b := wr.drew) rfl rfl rfl rfl) HB.out.size))
        have d1 : wr.drew.cell? ⟨g1, i, none⟩ = some (.int .i64 l[i]) := by rw [hb.cell (p := ⟨g1, i, none⟩) (block_lt_of_cell hc1)]; exact hc1
        have d2 : wr.drew.cell? ⟨g2, i, none⟩ = some (.int .i64 m[i]) := by rw [hb.cell (p := ⟨g2, i, none⟩) (block_lt_of_cell hc2)]; exact hc2
        have HBD := hid hb
        have HX := hid (show l[i] = m[i] → l.take (i + 1) = m.take (i + 1) from fun e => by
          rw [List.take_add_one, List.take_add_one, HT.out, List.getElem?_eq_getElem hil, List.getElem?_eq_getElem him, e])
        have HY := hid (show l[i] ≠ m[i] → l ≠ m from fun e h => e (by subst h; rfl))
        obtain ⟨x, hx⟩ : ∃ x, l[i] = x := ⟨_, rfl⟩
        obtain ⟨y, hy⟩ : ∃ y, m[i] = y := ⟨_, rfl⟩
        rw [hx] at d1 HX HY
        rw [hy] at d2 HX HY
        have f1 : (i : Int) < (n : Int) := by omega
        have f2 : (0 : Int) ≤ (i : Int) := by omega
        have ct : ((i : Int)).toNat = i := by omega
        have wj : IntKind.i64.wrap ((i : Int) + 1) = ((i + 1 : Nat) : Int) := by simp [IntKind.wrap, IntKind.bits, IntKind.signed]; omega
        have HJM := hid (show i + 1 ≤ n ∧ n - (i + 1) < n - i by omega)
        obtain ⟨j1, hj1⟩ : ∃ j1, i + 1 = j1 := ⟨_, rfl⟩
        rw [hj1] at wj HJM HX
        clear hi hin hil him hc1 hc2 hb hx hy hj1
        go_wp2_with fail
        rename_i K A
        have HK := hid A
        clear A
        go_region_held3 (fun w' => w'.cell? ⟨g1, i, none⟩ = some (.int .i64 x) ∧ w'.cell? ⟨g2, i, none⟩ = some (.int .i64 y)) (go_keep) (fail)
        refine HK.out _ _ ?_
        clear HK
        by_cases hxy : x = y
        · subst hxy
          have xx : (x != x) = false := by simp
          have HT2 := hid (HX.out rfl)
          go_wp2_with fail
          go_roundw
          case rel => exact ⟨j1, HJM.out.1, rfl, HBD, HT2⟩
          case measure => simpa [intOf] using HJM.out.2
        · have xx : (x != y) = true := by simpa using hxy
          have HN := hid (HY.out hxy)
          clear hxy
          go_wp2_with fail
          go_ret
          exact ⟨by simp [HN.out], HBD.out⟩
  · have hne : l ≠ m := fun e => hlen (by rw [e])
    have HN := hid hne
    have e1 : ((l.length : Int) != (m.length : Int)) = true := by simp; omega
    obtain ⟨a, ha⟩ : ∃ a, l.length = a := ⟨_, rfl⟩
    obtain ⟨b, hb⟩ : ∃ b, m.length = b := ⟨_, rfl⟩
    rw [ha, hb] at e1 ⊢
    clear hl hm hlen hne hn hn2 ha hb
    go_enter Tryd.func16, Tryd.ntmps16
    go_wp2_with fail
    go_ret
    exact ⟨by simp [HN.out], Below.refl _ _⟩
end Go.Proofs.YtcbfgodknonefaaDoor
