/-
  What an interest traded (the law's own call).
-/
import Derived.Test.YtknikhoobhgidaaFrB
namespace Go.Proofs.Ytknikhoobhgidaa
open Go.RowKit Go.Deep Go.Shelf
set_option linter.unusedVariables false
set_option linter.unusedSimpArgs false
set_option maxHeartbeats 4000000
set_option maxRecDepth 100000
theorem frs_get {l : List Fi} {i j : Nat} (hi : i < l.length) (hj : j < 4) : (frs l)[i * 4 + j]? = (frow l[i])[j]? := by
  induction l generalizing i with
  | nil => simp at hi
  | cons x l ih =>
    have hx : (frow x).length = 4 := rfl
    cases i with
    | zero =>
      simp only [frs, List.flatMap_cons, Nat.zero_mul, Nat.zero_add, List.getElem_cons_zero]
      rw [List.getElem?_append_left (by rw [hx]; omega)]
    | succ i =>
      have := ih (i := i) (by simpa using hi)
      simp only [frs, List.flatMap_cons, List.getElem_cons_succ] at this ⊢
      rw [List.getElem?_append_right (by rw [hx]; omega), hx, show (i + 1) * 4 + j - 4 = i * 4 + j by omega]
      exact this
/-- fills in a slice of one's own. -/
def Fz (w : World) (p : Option Addr) (c : Nat) (F : List Fi) : Prop := w.ownsRow 0 44 4 (.slice p F.length c) F.length (frs F)
theorem Fz.on {w w' : World} {p : Option Addr} {c : Nat} {F : List Fi} (h : Fz w p c F) (hb : Below w.heap.size w w') : Fz w' p c F := own_on h hb
theorem Fz.cells {w : World} {p : Option Addr} {c : Nat} {F : List Fi} (h : Fz w p c F) {i : Nat} (hi : i < F.length) : ∃ g, p = some ⟨g, 0, none⟩ ∧ w.cell? ⟨g, i * 4, none⟩ = some (.int .u64 F[i].bu) ∧ w.cell? ⟨g, i * 4 + 1, none⟩ = some (.int .u64 F[i].se) ∧ w.cell? ⟨g, i * 4 + 2, none⟩ = some (.int .i64 F[i].pr) ∧ w.cell? ⟨g, i * 4 + 3, none⟩ = some (.int .u64 F[i].qt) := by
  obtain ⟨_, ⟨e, e2⟩ | ⟨g, c', cur, e, r1, r2, r3, r4, r5, r6⟩⟩ := h
  · omega
  · obtain ⟨rfl, _, rfl⟩ := Value.slice.inj e
    have go : ∀ j, j < 4 → w.cell? ⟨g, i * 4 + j, none⟩ = (frow F[i])[j]? := fun j hj => by
      have := congrArg (fun z => z[i * 4 + j]?) r6
      have hlt : i * 4 + j < F.length * 4 := by omega
      simp only [List.getElem?_take, hlt, if_true, Array.getElem?_toList] at this
      rw [row_cell r2, this, frs_get hi hj]
    exact ⟨g, rfl, go 0 (by omega), go 1 (by omega), go 2 (by omega), go 3 (by omega)⟩
/-- a fill of an ID on a side. -/
def fof (id sd : Int) (f : Fi) : Bool := (sd == 1 && f.bu == id) || (sd == 2 && f.se == id)
/-- what an ID traded on a side. -/
def tqt (id sd : Int) (F : List Fi) : Int := ((F.filter (fof id sd)).map (·.qt)).sum
theorem tqt_step {id sd : Int} {F : List Fi} {i : Nat} (hi : i < F.length) : tqt id sd (F.take (i + 1)) = tqt id sd (F.take i) + (if fof id sd F[i] = true then F[i].qt else 0) := by
  unfold tqt
  rw [List.take_succ_eq_append_getElem hi, List.filter_append, List.map_append, List.sum_append_int]
  congr 1
  by_cases h : fof id sd F[i] = true
  · rw [if_pos h, List.filter_cons, if_pos h]; simp
  · rw [if_neg h, List.filter_cons, if_neg h]; simp
theorem tradedL_any (p : Option Addr) (c : Nat) (F : List Fi) (id sd : Int) (w : World) (h : Fz w p c F) (hn : F.length ≤ 8192) (hk : ∀ f ∈ F, 0 ≤ f.qt ∧ f.qt ≤ 4294967295) (hsd : sd = 1 ∨ sd = 2) :
    Calls Try.prog 30 #[.slice p F.length c, .int .u64 id, .int .i64 sd] w fun e w' => e = .returned (.int .u64 (tqt id sd F)) ∧ w = w' := by
  obtain ⟨n, hnn⟩ : ∃ n, F.length = n := ⟨_, rfl⟩
  have HN := hid hnn
  have H := hid h
  rw [hnn] at hn ⊢
  clear hnn h
  go_enter Try.func30, Try.ntmps30
  go_wp2
  go_loopw [7, 8] (fun nv iv wr => ∃ (i : Nat) (x : Int), i ≤ n ∧ iv = .int .i64 i ∧ nv = .int .u64 x ∧ 0 ≤ x ∧ x ≤ 4294967295 * i ∧ Hid (x = tqt id sd (F.take i)) ∧ Hid (w = wr)) (fun _ iv _ => n - (intOf iv).toNat)
  case atStart => exact ⟨0, 0, Nat.zero_le _, rfl, rfl, by omega, by omega, hid rfl, hid rfl⟩
  case round =>
    obtain ⟨i, x, hin, rfl, rfl, x0, x1, HX, HW⟩ := hrel
    have hw := HW.out
    subst hw
    by_cases hlt : i < n
    · have hi : i < F.length := by rw [HN.out]; exact hlt
      obtain ⟨g, hp, a0, a1, a2, a3⟩ := H.out.cells hi
      subst hp
      have hq := hk F[i] (List.getElem_mem hi)
      have f1 := tqt_step (id := id) (sd := sd) hi
      rw [← HX.out] at f1
      obtain ⟨z, hz⟩ : ∃ z, F[i] = z := ⟨_, rfl⟩
      rw [hz] at a0 a1 a2 a3 hq f1
      have i0 : (0 : Int) ≤ (i : Int) := by omega
      have i1 : (i : Int) < (n : Int) := by omega
      have w1 : IntKind.u64.wrap (x + z.qt) = x + z.qt := by rw [IntKind.wrap_u64]; omega
      clear hz HX
      rcases hsd with hsd | hsd
      · subst hsd
        by_cases he : z.bu = id
        · have t1 : (z.bu == id) = true := by simpa using he
          have e1 : fof id 1 z = true := by unfold fof; rw [t1]; rfl
          rw [e1, if_pos rfl] at f1
          have F1 := hid f1
          clear f1 e1 he
          go_wp2
          go_roundw
          case rel => exact ⟨i + 1, x + z.qt, by omega, by go_num, rfl, by omega, by omega, hid (by have := F1.out; omega), hid (by first | rfl | trivial)⟩
          case measure => simp [intOf]; omega
        · have t1 : (z.bu == id) = false := by simpa using he
          have e1 : fof id 1 z = false := by unfold fof; rw [t1]; rfl
          rw [e1, if_neg (by decide)] at f1
          have F1 := hid f1
          clear f1 e1 he
          go_wp2
          go_roundw
          case rel => exact ⟨i + 1, x, by omega, by go_num, rfl, by omega, by omega, hid (by have := F1.out; omega), hid (by first | rfl | trivial)⟩
          case measure => simp [intOf]; omega
      · subst hsd
        by_cases he : z.se = id
        · have t1 : (z.se == id) = true := by simpa using he
          have e1 : fof id 2 z = true := by unfold fof; rw [t1]; rfl
          rw [e1, if_pos rfl] at f1
          have F1 := hid f1
          clear f1 e1 he
          go_wp2
          go_roundw
          case rel => exact ⟨i + 1, x + z.qt, by omega, by go_num, rfl, by omega, by omega, hid (by have := F1.out; omega), hid (by first | rfl | trivial)⟩
          case measure => simp [intOf]; omega
        · have t1 : (z.se == id) = false := by simpa using he
          have e1 : fof id 2 z = false := by unfold fof; rw [t1]; rfl
          rw [e1, if_neg (by decide)] at f1
          have F1 := hid f1
          clear f1 e1 he
          go_wp2
          go_roundw
          case rel => exact ⟨i + 1, x, by omega, by go_num, rfl, by omega, by omega, hid (by have := F1.out; omega), hid (by first | rfl | trivial)⟩
          case measure => simp [intOf]; omega
    · obtain rfl : i = n := by omega
      have e : F.take i = F := List.take_of_length_le (by rw [HN.out]; exact Nat.le_refl _)
      rw [e] at HX
      go_wp2
      go_ret
      exact ⟨by rw [← HX.out]; rfl, rfl⟩
end Go.Proofs.Ytknikhoobhgidaa
