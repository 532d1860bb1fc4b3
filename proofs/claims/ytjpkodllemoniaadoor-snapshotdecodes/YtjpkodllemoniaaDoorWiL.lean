/-
  Two lists of orders compared, two books.
-/
import Derived.Test.YtjpkodllemoniaaDoorCpE
namespace Go.Proofs.YtjpkodllemoniaaDoor.Cp
open Go.RowKit Go.Deep
set_option linter.unusedVariables false
set_option linter.unusedSimpArgs false
set_option maxHeartbeats 8000000
set_option maxRecDepth 100000
theorem orders_same (p p2 : Option Addr) (c c2 : Nat) (os : List Or) (w : World) (h : Osz w p os) (h2 : Osz w p2 os) (hmx : os.length < 9223372036854775808) :
    Calls Tryd.prog 22 #[.slice p os.length c, .slice p2 os.length c2] w fun e w' => e = .returned (.bool true) ∧ Below w.heap.size w w' := by
  obtain ⟨n, hn⟩ : ∃ n, os.length = n := ⟨_, rfl⟩
  have HN := hid hn
  have H1 := hid h
  have H2 := hid h2
  rw [hn] at hmx
  rw [hn]
  have HMX := hid hmx
  clear hn h h2 hmx
  go_enter Tryd.func22, Tryd.ntmps22
  go_upto_region 4 with fail
  go_loopw [5] (fun iv wr => ∃ i : Nat, i ≤ n ∧ iv = .int .i64 i ∧ Hid (Below w.heap.size w wr)) (fun iv _ => n - (intOf iv).toNat)
  case atStart => exact ⟨0, Nat.zero_le _, rfl, hid (Below.refl _ _)⟩
  case round =>
    obtain ⟨i, hin, rfl, HB⟩ := hrel
    by_cases hlt : i < n
    · have hil : i < os.length := by rw [HN.out]; exact hlt
      obtain ⟨g, o, hp, a0, a1, a2, a3, a4, a5, a6⟩ := osz_cells H1.out HB.out hil
      obtain ⟨g2, o2, hp2, b0, b1, b2, b3, b4, b5, b6⟩ := osz_cells H2.out HB.out hil
      subst hp
      subst hp2
      obtain ⟨z, hz⟩ : ∃ z, os[i] = z := ⟨_, rfl⟩
      rw [hz] at a0 a1 a2 a3 a4 a5 a6 b0 b1 b2 b3 b4 b5 b6
      have i0' : (0 : Int) ≤ (i : Int) := by omega
      have i1 : (i : Int) < (n : Int) := by omega
      have hmx' := HMX.out
      have wi : IntKind.i64.wrap ((i : Int) + 1) = ((i + 1 : Nat) : Int) := by rw [IntKind.wrap_i64]; omega
      have q := fun w => eqO z z w
      rw [show decide (z = z) = true from by simp] at q
      have HL := hid hlt
      clear hz hlt hmx'
      go_upto_region 6 with fail
      go_big_quiet (fail)
      have HB2 := hid (btr HB.out (bdrew _ nq))
      go_wp2
      go_roundw
      case rel => exact ⟨i + 1, HL.out, by go_num, HB2⟩
      case measure => have := HL.out; simp [intOf]; omega
    · obtain rfl : i = n := by omega
      have iF : decide ((i : Int) < (i : Int)) = false := by simp
      go_wp2
      go_ret
      exact ⟨rfl, HB.out⟩
theorem books_same (cap meet high seq : Int) (os1 os2 : List Or) (p1 p2 q1 q2 : Option Addr) (c1 c2 d1 d2 : Nat) (w : World) (h1 : Osz w p1 os1) (h2 : Osz w p2 os2) (k1 : Osz w q1 os1) (k2 : Osz w q2 os2) (m1 : os1.length < 9223372036854775808) (m2 : os2.length < 9223372036854775808) :
    Calls Tryd.prog 8 #[.agg #[.int .i64 cap, .int .i64 meet, .slice p1 os1.length c1, .slice p2 os2.length c2, .int .u64 high, .int .u64 seq], .agg #[.int .i64 cap, .int .i64 meet, .slice q1 os1.length d1, .slice q2 os2.length d2, .int .u64 high, .int .u64 seq]] w fun e w' => e = .returned (.bool true) ∧ Below w.heap.size w w' := by
  have CO1 := hid (fun (U : World) (hU : Below w.heap.size w U) => orders_same p1 q1 c1 d1 os1 U (h1.on hU) (k1.on hU) m1)
  have CO2 := hid (fun (U : World) (hU : Below w.heap.size w U) => orders_same p2 q2 c2 d2 os2 U (h2.on hU) (k2.on hU) m2)
  clear h1 h2 k1 k2 m1 m2
  obtain ⟨n1, e1⟩ : ∃ n, os1.length = n := ⟨_, rfl⟩
  obtain ⟨n2, e2⟩ : ∃ n, os2.length = n := ⟨_, rfl⟩
  rw [e1] at CO1
  rw [e2] at CO2
  rw [e1, e2]
  clear e1 e2
  obtain ⟨V, hV⟩ : ∃ W, w.alloc (.cells #[.int .i64 cap, .int .i64 meet, .slice p1 n1 c1, .slice p2 n2 c2, .int .u64 high, .int .u64 seq] 27) = W := ⟨_, rfl⟩
  obtain ⟨W, hW⟩ : ∃ W, V.alloc (.cells #[.int .i64 cap, .int .i64 meet, .slice q1 n1 d1, .slice q2 n2 d2, .int .u64 high, .int .u64 seq] 27) = W := ⟨_, rfl⟩
  obtain ⟨R, hR⟩ : ∃ R, w.heap.size = R := ⟨_, rfl⟩
  obtain ⟨Q, hQ⟩ : ∃ R, V.heap.size = R := ⟨_, rfl⟩
  have HB := hid (show Below w.heap.size w W from by rw [← hW, ← hV]; exact btr (ball _ _) (ball _ _))
  have r1 : W.heap[R]? = some (.cells #[.int .i64 cap, .int .i64 meet, .slice p1 n1 c1, .slice p2 n2 c2, .int .u64 high, .int .u64 seq] 27 (0, 0)) := by rw [← hW]; exact row_on (by rw [← hV, ← hR]; exact World.alloc_heap_new _ _) (ball _ _)
  have r2 : W.heap[Q]? = some (.cells #[.int .i64 cap, .int .i64 meet, .slice q1 n1 d1, .slice q2 n2 d2, .int .u64 high, .int .u64 seq] 27 (0, 0)) := by rw [← hW, ← hQ]; exact World.alloc_heap_new _ _
  have HC := hid (fun (U : World) (hU : Below W.heap.size W U) => (⟨row6 (row_on r1 hU), row6 (row_on r2 hU)⟩ : _ ∧ _))
  have q := fun w => eqK cap meet cap meet w
  rw [show decide (cap = cap ∧ meet = meet) = true from by simp] at q
  obtain ⟨⟨a0, a1, a2, a3, a4, a5⟩, b0, b1, b2, b3, b4, b5⟩ := HC.out W (Below.refl _ _)
  clear r1 r2
  go_enter Tryd.func8, Tryd.ntmps8
  go_upto_region 1 with fail
  clear hV hW hR hQ
  go_wp2_with (first | (go_at_call 22; with_reducible refine (CO1.out W HB.out).mono ?_; rintro e w1 ⟨rfl, hb1⟩; have HB1 := hid hb1; clear hb1; obtain ⟨⟨f0, f1, f2, f3, f4, f5⟩, g0, g1, g2, g3, g4, g5⟩ := HC.out w1 HB1.out) | (go_at_call 22; with_reducible refine (CO2.out w1 (btr HB.out HB1.out)).mono ?_; rintro e w2 ⟨rfl, hb2⟩; have HB2 := hid (btr HB1.out hb2); clear hb2))
  go_ret
  exact ⟨rfl, btr HB.out HB2.out⟩
end Go.Proofs.YtjpkodllemoniaaDoor.Cp
