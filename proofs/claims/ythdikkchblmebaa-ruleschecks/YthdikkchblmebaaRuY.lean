/-
  What a book keeps, told; a book opened with what it is given.
-/
import Derived.Test.YthdikkchblmebaaRuK
import Derived.Laws.MakeOwn
namespace Go.Proofs.Ythdikkchblmebaa
open Go.RowKit Go.Deep Go.Shelf
set_option linter.unusedVariables false
set_option linter.unusedSimpArgs false
set_option maxHeartbeats 4000000
set_option maxRecDepth 100000
/-- orders, cell by cell. -/
def ors (os : List Or) : List Value := os.flatMap fun x => (orow x).toList
theorem ors_len (os : List Or) : (ors os).length = os.length * 7 := by
  induction os with
  | nil => rfl
  | cons x l ih => simp only [ors, List.flatMap_cons, List.length_append, List.length_cons] at ih ⊢; rw [ih]; simp [orow]; omega
theorem ors_snoc (l : List Or) (x : Or) : ors (l ++ [x]) = ors l ++ (orow x).toList := by simp [ors]
theorem ors_get {os : List Or} {i : Nat} (hi : i < os.length) {j : Nat} (hj : j < 7) : (ors os)[i * 7 + j]? = (orow os[i]).toList[j]? := by
  induction os generalizing i with
  | nil => simp at hi
  | cons x l ih =>
    have hx : (orow x).toList.length = 7 := by simp [orow]
    cases i with
    | zero =>
      simp only [ors, List.flatMap_cons, Nat.zero_mul, Nat.zero_add, List.getElem_cons_zero]
      rw [List.getElem?_append_left (by omega)]
    | succ i =>
      have := ih (i := i) (by simpa using hi)
      simp only [ors, List.flatMap_cons, List.getElem_cons_succ] at this ⊢
      rw [List.getElem?_append_right (by omega), hx, show (i + 1) * 7 + j - 7 = i * 7 + j by omega]
      exact this
theorem orow_one (z : Or) : ∀ v ∈ (orow z).toList, v.oneCell' = true := by
  intro v hv
  simp only [orow, List.mem_cons, List.not_mem_nil, or_false] at hv
  rcases hv with rfl | rfl | rfl | rfl | rfl | rfl | rfl <;> rfl
theorem info50all : (Try.prog.info? 53).map (fun i => (i.zero, i.size, i.bytes)) = some (some (.agg #[.int .u64 0, .int .u32 0, .int .i64 0, .int .i64 0, .int .u64 0, .int .u64 0, .int .u64 0]), 7, 56) := by kernel_rfl
theorem orders_any (p : Option Addr) (c : Nat) (l : LO) (w : World) (h : Li w p c l) (hn : l.length ≤ 1048576) :
    Calls Try.prog 27 #[.slice p l.length c] w fun e w' => ∃ v, e = .returned v ∧ w'.ownsRow w.heap.size 53 7 v l.length (ors (l.map (·.2))) ∧ Below w.heap.size w w' := by
  obtain ⟨i0, hi, hz0, hz1, hz2⟩ := info_parts info50all
  obtain ⟨n, hnn⟩ : ∃ n, l.length = n := ⟨_, rfl⟩
  obtain ⟨MC, hMC, hms⟩ : ∃ MC : Array Value, madeCells #[.int .u64 0, .int .u32 0, .int .i64 0, .int .i64 0, .int .u64 0, .int .u64 0, .int .u64 0] (n * 7) = MC ∧ MC.size = n * 7 := ⟨_, rfl, by simp [madeCells]⟩
  have hmk : ∀ u : World, (Instr.makeSlice 28 (.int .i64 0) (.int .i64 (n : Nat))).run Try.prog u = .ok (.slice (some ⟨u.heap.size, 0, none⟩) 0 n) (u.alloc (.cells MC 53)) := fun u => by
    have := run_make (P := Try.prog) u 28 53 i0 _ Try.underlying28 hi hz0 .i64 .i64 0 (n : Nat) (by omega) (by omega) (by rw [hz2]; omega) (by omega)
    rw [hz1] at this
    simpa [Value.cells, hMC] using this
  have HS := hid (show (w.alloc (.cells MC 53)).ownsRow w.heap.size 53 7 (.slice (some ⟨w.heap.size, 0, none⟩) 0 n) 0 (ors ((l.take 0).map (·.2))) from World.ownsRow_made w MC n (Nat.le_refl _) (by unfold maxLen; omega) hms)
  have HL := hid h
  have HI := hid hi
  have HZ0 := hid hz0
  have HZ1 := hid hz1
  have HZ2 := hid hz2
  have HN := hid hnn
  rw [hnn] at hn ⊢
  clear h hi hz0 hz1 hz2 hMC hms hnn
  go_enter Try.func27, Try.ntmps27
  go_wp2_with fail
  go_loopw [3, 11] (fun rv iv wr => ∃ i : Nat, i ≤ n ∧ iv = .int .i64 i ∧ Hid (wr.ownsRow w.heap.size 53 7 rv i (ors ((l.take i).map (·.2)))) ∧ Hid (Below w.heap.size w wr)) (fun _ iv _ => n - (intOf iv).toNat)
  case atStart => exact ⟨0, Nat.zero_le _, rfl, HS, hid (ball _ _)⟩
  case round =>
    obtain ⟨i, hin, rfl, HO, HB⟩ := hrel
    clear HS hmk
    by_cases hlt : i < n
    · have hil : i < l.length := by rw [HN.out]; exact hlt
      obtain ⟨g, hp, hgc, hr⟩ := (HL.out.on HB.out).cell hil
      subst hp
      obtain ⟨z, hz⟩ : ∃ z, (l[i]).2 = z := ⟨_, rfl⟩
      obtain ⟨bl, hbl⟩ : ∃ z, (l[i]).1 = z := ⟨_, rfl⟩
      rw [hbl] at hgc hr
      rw [hz] at hr
      simp only [pv] at hgc
      have r0 := row_cell hr 0
      have r1 := row_cell hr 1
      have r2 := row_cell hr 2
      have r3 := row_cell hr 3
      have r4 := row_cell hr 4
      have r5 := row_cell hr 5
      have r6 := row_cell hr 6
      simp only [orow, List.getElem?_toArray, List.getElem?_cons_succ, List.getElem?_cons_zero] at r0 r1 r2 r3 r4 r5 r6
      have HT := hid (show ors ((l.take i).map (·.2)) ++ (orow z).toList = ors ((l.take (i + 1)).map (·.2)) from by
        rw [List.take_succ_eq_append_getElem hil, List.map_append, List.map_singleton, hz, ors_snoc])
      have HNW := hid (fun (cs : Array Value) (hcs : cs = orow z) => (show ∀ j u, (orow z).toList[j]? = some u → (wr.alloc (.cells cs 53)).cell? ((⟨wr.heap.size, 0, none⟩ : Addr).add j) = some u from fun j u hj => by
        rw [Addr.add_lit, Nat.zero_add, row_cell (World.alloc_heap_new wr (.cells cs 53)), hcs]
        simpa using hj))
      have i0' : (0 : Int) ≤ (i : Int) := by omega
      have i1 : (i : Int) < (n : Int) := by omega
      have hbs := HB.out.size
      obtain ⟨p0, c0, hrv⟩ := own_form HO.out
      subst hrv
      clear hr hz hbl
      go_wp2_with (at_builtin; refine wpList_append_own _ (by rfl) (.tmp 15) (.tmp 19) 28 (by rfl) w.heap.size 53 i0 _ 7 56 Try.underlying28 HI.out HZ0.out HZ1.out HZ2.out rfl (by decide) _ i _ (by rfl) (HO.out.alloc _) ⟨wr.heap.size, 0, none⟩ 1 1 (orow z).toList (by rfl) (by simp [orow]) (HNW.out _ rfl) (orow_one z) (by unfold maxLen; omega) (by omega) (by simp; omega) ?_; intro v1 w1 hown hgrow _; have O1 := hid hown; have G1 := hid hgrow; clear hown hgrow)
      go_roundw
      case rel =>
        refine ⟨i + 1, by omega, by go_num, ?_, ?_⟩
        · have := O1.out
          rw [HT.out] at this
          exact this
        · exact (btr HB.out (ball wr _)).grown G1.out (Nat.le_trans HB.out.size (by simp)) (fun j hj => (HO.out.lt j hj).1)
      case measure => simp [intOf]; omega
    · obtain rfl : i = n := by omega
      go_wp2
      go_ret
      refine ⟨_, rfl, ?_, HB.out⟩
      have := HO.out
      rw [List.take_of_length_le (by rw [HN.out]; exact Nat.le_refl _)] at this
      exact this
end Go.Proofs.Ythdikkchblmebaa
