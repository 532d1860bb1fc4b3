/-
  IndexAll: a room that none is made of.
-/
import Derived.Test.YthidnipmkffilaaIyP
namespace Go.Proofs.Ythidnipmkffilaa
open Go.RowKit Go.Deep
set_option linter.unusedVariables false
set_option linter.unusedSimpArgs false
set_option maxRecDepth 100000
set_option maxHeartbeats 4000000
theorem all_bb {a b : Int} (ha : a < 1 ∨ 65536 < a) (hb : b < 1 ∨ 65536 < b) (q : Option Addr) (m cap : Nat) (w : World) :
    Calls Try.prog 5 #[.int .i64 a, .int .i64 b, .slice q m cap] w fun e w' => e = .returned (.bool true) ∧ Below w.heap.size w w' := by
  have HM := hid (made_bad ha w)
  have HN := hid (made_bad hb)
  clear ha hb
  go_enter Try.func5, Try.ntmps5
  go_upto_region 2 with (go_at_call 9; (with_reducible refine (HM.out).mono ?_); rintro e w1 ⟨rfl, hB⟩; have HB := hid hB; clear hB)
  go_upto_region 3 with (go_at_call 9; (with_reducible refine (HN.out _).mono ?_); rintro e w2 ⟨rfl, hB⟩; have HC := hid hB; clear hB)
  have HD := hid (btr HB.out (btr (ball _ _) (btr HC.out (ball w2 (.cells #[.pointer none, .pointer none] 25)))))
  have k := row_cell (World.alloc_heap_new w2 (.cells #[.pointer none, .pointer none] 25))
  have k0 := row_cell (row_on (row_on (World.alloc_heap_new w1 (.cells #[.pointer none, .pointer none] 25)) HC.out) (ball w2 (.cells #[.pointer none, .pointer none] 25))) 0
  simp only [List.getElem?_toArray, List.getElem?_cons_succ, List.getElem?_cons_zero] at k0
  clear k
  go_wp2
  go_ret
  exact ⟨rfl, HD.out⟩
theorem all_bg {a : Int} {b : Nat} (ha : a < 1 ∨ 65536 < a) (b1 : 1 ≤ b) (b2 : b ≤ 65536) (q : Option Addr) (m cap : Nat) (w : World) :
    Calls Try.prog 5 #[.int .i64 a, .int .i64 b, .slice q m cap] w fun e w' => e = .returned (.bool true) ∧ Below w.heap.size w w' := by
  have HM := hid (made_bad ha w)
  have HN := hid (made_any b1 b2)
  clear ha b1 b2
  go_enter Try.func5, Try.ntmps5
  go_upto_region 2 with (go_at_call 9; (with_reducible refine (HM.out).mono ?_); rintro e w1 ⟨rfl, hB⟩; have HB := hid hB; clear hB)
  go_upto_region 3 with (go_at_call 9; (with_reducible refine (HN.out _).mono ?_); rintro e w2 ⟨X, P, R, Q, rfl, -, -, -, -, -, -, hB⟩; have HC := hid hB; clear hB)
  have HD := hid (btr HB.out (btr (ball _ _) (btr HC.out (ball w2 (.cells #[.pointer (some ⟨X, 0, none⟩), .pointer (some ⟨R, 0, none⟩)] 25)))))
  have k0 := row_cell (row_on (row_on (World.alloc_heap_new w1 (.cells #[.pointer none, .pointer none] 25)) HC.out) (ball w2 (.cells #[.pointer (some ⟨X, 0, none⟩), .pointer (some ⟨R, 0, none⟩)] 25))) 0
  simp only [List.getElem?_toArray, List.getElem?_cons_succ, List.getElem?_cons_zero] at k0
  go_wp2
  go_ret
  exact ⟨rfl, HD.out⟩
theorem all_gb {a : Nat} {b : Int} (a1 : 1 ≤ a) (a2 : a ≤ 65536) (hb : b < 1 ∨ 65536 < b) (q : Option Addr) (m cap : Nat) (w : World) :
    Calls Try.prog 5 #[.int .i64 a, .int .i64 b, .slice q m cap] w fun e w' => e = .returned (.bool true) ∧ Below w.heap.size w w' := by
  have HM := hid (made_any a1 a2 w)
  have HN := hid (made_bad hb)
  clear hb a1 a2
  go_enter Try.func5, Try.ntmps5
  go_upto_region 2 with (go_at_call 9; (with_reducible refine (HM.out).mono ?_); rintro e w1 ⟨X, P, R, Q, rfl, -, -, -, -, -, -, hB⟩; have HB := hid hB; clear hB)
  go_upto_region 3 with (go_at_call 9; (with_reducible refine (HN.out _).mono ?_); rintro e w2 ⟨rfl, hB⟩; have HC := hid hB; clear hB)
  have HD := hid (btr HB.out (btr (ball _ _) (btr HC.out (ball w2 (.cells #[.pointer none, .pointer none] 25)))))
  have k0 := row_cell (row_on (row_on (World.alloc_heap_new w1 (.cells #[.pointer (some ⟨X, 0, none⟩), .pointer (some ⟨R, 0, none⟩)] 25)) HC.out) (ball w2 (.cells #[.pointer none, .pointer none] 25))) 0
  have k1 := row_cell (World.alloc_heap_new w2 (.cells #[.pointer none, .pointer none] 25)) 0
  simp only [List.getElem?_toArray, List.getElem?_cons_succ, List.getElem?_cons_zero] at k0 k1
  go_wp2
  go_ret
  exact ⟨rfl, HD.out⟩
end Go.Proofs.Ythidnipmkffilaa
