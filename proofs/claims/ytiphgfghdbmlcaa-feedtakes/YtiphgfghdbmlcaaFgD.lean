/-
  A subscriber; what it shows.
-/
import Derived.Test.YtiphgfghdbmlcaaFgC
namespace Go.Proofs.Ytiphgfghdbmlcaa
open Go.RowKit Go.Deep
set_option linter.unusedVariables false
set_option linter.unusedSimpArgs false
set_option maxHeartbeats 4000000
set_option maxRecDepth 100000
/-- a subscriber. -/
structure Sb (w : World) (S M nm : Nat) (sq hold gr : Int) (p1 : Option Addr) (c1 : Nat) (l1 : List Lv) (p2 : Option Addr) (c2 : Nat) (l2 : List Lv) (L : List Dm) (la : Dm) : Prop where
  row : w.heap[S]? = some (.cells #[.int .u64 sq, .slice p1 l1.length c1, .slice p2 l2.length c2, .int .i64 hold, .map (some M), .int .u64 gr, .int .u64 la.sq, .int .i64 la.kd, .int .i64 la.sd, .int .i64 la.pr, .int .u64 la.qt, .int .i64 la.ct] 92 (0, 0))
  o1 : Lo 0 w p1 c1 l1
  o2 : Lo 0 w p2 c2 l2
  k1 : Lok 1 l1
  k2 : Lok 2 l2
  hm : Hm w M nm L
  sq : 0 ≤ sq ∧ sq < 18446744073709551616
  gr : 0 ≤ gr ∧ gr < 18446744073709551616
theorem Sb.kept {w w' : World} {F : Nat → Prop} {S M nm : Nat} {sq hold gr : Int} {p1 : Option Addr} {c1 : Nat} {l1 : List Lv} {p2 : Option Addr} {c2 : Nat} {l2 : List Lv} {L : List Dm} {la : Dm} (h : Sb w S M nm sq hold gr p1 c1 l1 p2 c2 l2 L la) (k : Kp F w w') (hS : ¬ F S) (hM : ¬ F M) (f1 : ∀ g, OfP p1 g → ¬ F g) (f2 : ∀ g, OfP p2 g → ¬ F g) : Sb w' S M nm sq hold gr p1 c1 l1 p2 c2 l2 L la :=
  ⟨k.row h.row hS, h.o1.kept k f1, h.o2.kept k f2, h.k1, h.k2, h.hm.kept k hM, h.sq, h.gr⟩
theorem Sb.on {w w' : World} {S M nm : Nat} {sq hold gr : Int} {p1 : Option Addr} {c1 : Nat} {l1 : List Lv} {p2 : Option Addr} {c2 : Nat} {l2 : List Lv} {L : List Dm} {la : Dm} (h : Sb w S M nm sq hold gr p1 c1 l1 p2 c2 l2 L la) (hb : Below w.heap.size w w') : Sb w' S M nm sq hold gr p1 c1 l1 p2 c2 l2 L la :=
  h.kept (Kp.of (fun _ => False) hb) _root_.id _root_.id (fun _ _ h => h) (fun _ _ h => h)
theorem row12 {w : World} {g : Nat} {t : TypeId} {a0 a1 a2 a3 a4 a5 a6 a7 a8 a9 a10 a11 : Value} (h : w.heap[g]? = some (.cells #[a0, a1, a2, a3, a4, a5, a6, a7, a8, a9, a10, a11] t (0, 0))) : w.cell? ⟨g, 0, none⟩ = some a0 ∧ w.cell? ⟨g, 1, none⟩ = some a1 ∧ w.cell? ⟨g, 2, none⟩ = some a2 ∧ w.cell? ⟨g, 3, none⟩ = some a3 ∧ w.cell? ⟨g, 4, none⟩ = some a4 ∧ w.cell? ⟨g, 5, none⟩ = some a5 :=
  ⟨row_cell h 0, row_cell h 1, row_cell h 2, row_cell h 3, row_cell h 4, row_cell h 5⟩
theorem newS_ok (hold : Nat) (hh : hold ≤ 1024) (w : World) : Calls Try.prog 17 #[.int .i64 hold] w fun e w' => ∃ S M, e = .returned (.tuple #[.pointer (some ⟨S, 0, none⟩), .int .i64 0]) ∧ Sb w' S M 0 0 hold 0 none 0 [] none 0 [] [] dm0 ∧ w.heap.size ≤ S ∧ w.heap.size ≤ M ∧ Below w.heap.size w w' := by
  have a1 : decide ((hold : Int) < 0) = false := by simp
  have a2 : decide (1024 < (hold : Int)) = false := by simp; omega
  have a3 : decide (1024 < hold) = false := by simp; omega
  have rm : ∀ U : World, (Instr.makeMap 90 none).run Try.prog U = .ok (.map (some U.heap.size)) (U.alloc (.map #[] 0)) := fun U => run_makeMap 90 U
  have HS := hid (show Sb ((w.alloc (.map #[] 0)).alloc (.cells #[.int .u64 0, .slice none 0 0, .slice none 0 0, .int .i64 hold, .map (some w.heap.size), .int .u64 0, .int .u64 0, .int .i64 0, .int .i64 0, .int .i64 0, .int .u64 0, .int .i64 0] 92)) (w.heap.size + 1) w.heap.size 0 0 hold 0 none 0 [] none 0 [] [] dm0 from by
    have := World.alloc_heap_new (w.alloc (.map #[] 0)) (.cells #[.int .u64 0, .slice none 0 0, .slice none 0 0, .int .i64 hold, .map (some w.heap.size), .int .u64 0, .int .u64 0, .int .i64 0, .int .i64 0, .int .i64 0, .int .u64 0, .int .i64 0] 92)
    rw [show (w.alloc (.map #[] 0)).heap.size = w.heap.size + 1 from by simp] at this
    exact ⟨this, Lo.nil0 _ _, Lo.nil0 _ _, Lok.nil _, Lok.nil _, (Hm.made w).on (ball _ _), by omega, by omega⟩)
  go_enter Try.func17, Try.ntmps17
  go_wp2
  go_ret2
  exact ⟨w.heap.size + 1, w.heap.size, rfl, HS.out, by omega, Nat.le_refl _, btr (ball _ _) (ball _ _)⟩
theorem good_any {w : World} {S M nm : Nat} {sq hold gr : Int} {p1 : Option Addr} {c1 : Nat} {l1 : List Lv} {p2 : Option Addr} {c2 : Nat} {l2 : List Lv} {L : List Dm} {la : Dm} (h : Sb w S M nm sq hold gr p1 c1 l1 p2 c2 l2 L la) :
    Calls Try.prog 44 #[.pointer (some ⟨S, 0, none⟩)] w fun e w' => e = .returned (.bool (decide (gr ≤ sq))) ∧ ∃ n, w' = w.drewN n := by
  obtain ⟨k0, k1, k2, k3, k4, k5⟩ := row12 h.row
  clear h k1 k2 k3 k4
  go_enter Try.func44, Try.ntmps44
  go_upto_region 1 with fail
  go_quiet (fail)
  go_wp2
  go_ret
  exact ⟨rfl, _, rfl⟩
theorem pictureS_any (S : Nat) (row : Array Value) (sq : Int) (p1 p2 : Option Addr) (c1 c2 : Nat) (l1 l2 : List Lv) (w : World) (k0 : w.cell? ⟨S, 0, none⟩ = some (.int .u64 sq)) (k1 : w.cell? ⟨S, 1, none⟩ = some (.slice p1 l1.length c1)) (k2 : w.cell? ⟨S, 2, none⟩ = some (.slice p2 l2.length c2)) (hS : S < w.heap.size) (h1 : Rl w p1 c1 l1) (h2 : Rl w p2 c2 l2) (b1 : l1.length * 24 ≤ 140737488355328) (b2 : l2.length * 24 ≤ 140737488355328) :
    Calls Try.prog 39 #[.pointer (some ⟨S, 0, none⟩)] w fun e w' => ∃ q1 d1 q2 d2, e = .returned (.agg #[.int .u64 sq, .slice q1 l1.length d1, .slice q2 l2.length d2]) ∧ Lo w.heap.size w' q1 d1 l1 ∧ Lo w.heap.size w' q2 d2 l2 ∧ (∀ g, OfP q1 g → ¬ OfP q2 g) ∧ Below w.heap.size w w' := by
  obtain ⟨R, hR⟩ : ∃ R, w.heap.size = R := ⟨_, rfl⟩
  obtain ⟨n1, hn1⟩ : ∃ n, l1.length = n := ⟨_, rfl⟩
  obtain ⟨n2, hn2⟩ : ∃ n, l2.length = n := ⟨_, rfl⟩
  obtain ⟨W, hW⟩ : ∃ W, w.alloc (.cells #[.int .u64 0, .slice none 0 0, .slice none 0 0] 30) = W := ⟨_, rfl⟩
  have hb0 : Below w.heap.size w W := by rw [← hW]; exact ball _ _
  have hsz : W.heap.size = R + 1 := by rw [← hW, ← hR]; simp
  have HB := hid hb0
  have HZ := hid (show W.heap[R]? = some (.cells #[.int .u64 0, .slice none 0 0, .slice none 0 0] 30 (0, 0)) from by rw [← hW, ← hR]; exact World.alloc_heap_new _ _)
  have HW := hid hW
  have HR := hid hR
  have HS := hid hsz
  have C := hid (copied_any sq p1 p2 c1 c2 l1 l2 W (h1.on hb0) (h2.on hb0) b1 b2)
  have k0 := (hb0.cell (p := ⟨S, 0, none⟩) hS).trans k0
  have k1 := (hb0.cell (p := ⟨S, 1, none⟩) hS).trans k1
  have k2 := (hb0.cell (p := ⟨S, 2, none⟩) hS).trans k2
  rw [hn1, hn2] at C
  rw [hn1] at k1
  rw [hn2] at k2
  rw [hn1, hn2]
  clear h1 h2 b1 b2 hb0 hsz hW hR hn1 hn2
  go_enter Try.func39, Try.ntmps39
  go_upto_region 1 with fail
  rw [HW.out, HR.out]
  go_wp2_with (go_at_call 34; with_reducible refine (C.out).mono ?_; rintro e w1 ⟨q1, d1, q2, d2, rfl, hl1, hl2, ha, hb⟩; have HL1 := hid hl1; have HL2 := hid hl2; have HA := hid ha; have HB1 := hid hb; have HZ1 := hid (row_on HZ.out hb); clear hl1 hl2 ha hb; refine Hid.out ?_)
  have AI := hid (show (Try.prog.info? 30).map (·.size) = some (#[.int .u64 sq, .slice q1 n1 d1, .slice q2 n2 d2] : Array Value).size from infoP)
  have AS := hid (show (#[.int .u64 0, .slice none 0 0, .slice none 0 0] : Array Value).size = (#[.int .u64 sq, .slice q1 n1 d1, .slice q2 n2 d2] : Array Value).size from rfl)
  have AA := hid (show (#[.int .u64 sq, .slice q1 n1 d1, .slice q2 n2 d2] : Array Value).all (·.oneCell') = true from by simp [Value.oneCell'])
  refine hid ?_
  go_wp2_with (refine wpList_store_row (by rfl) 30 (.tmp 2) (.tmp 7) (by rfl) R #[.int .u64 sq, .slice q1 n1 d1, .slice q2 n2 d2] (by rfl) (by rfl) 30 _ HZ1.out AI.out AS.out AA.out ?_)
  refine bodyPost_ret (results_cell_row (fn := Try.f39) Try.results39 _ _ R 30 #[.int .u64 sq, .slice q1 n1 d1, .slice q2 n2 d2] (0, 0) _ (by rfl) (setRow_heap _ _ _ _ 30 (0, 0) HZ1.out) Try.underlying30 rfl infoP) rfl ⟨q1, d1, q2, d2, rfl, ?_, ?_, HA.out, ?_⟩
  · exact (HL1.out.setRow (by have := HS.out; omega)).base HB.out.size
  · exact (HL2.out.setRow (by have := HS.out; omega)).base HB.out.size
  · exact setRow_below (btr HB.out HB1.out) (by have := HR.out; omega)
end Go.Proofs.Ytiphgfghdbmlcaa
