/-
  The document's subscriber: what is held; whether a picture can be.
-/
import Derived.Test.YtiphgfghdbmlcaaFgJ
namespace Go.Proofs.Ytiphgfghdbmlcaa
open Go.RowKit Go.Deep
set_option linter.unusedVariables false
set_option linter.unusedSimpArgs false
set_option maxHeartbeats 4000000
set_option maxRecDepth 100000
/-- the place of a number among what is held. -/
def hix (l : List Dm) (k : Int) : Option Nat := l.findIdx? (fun d => d.sq == k)
def hixI (o : Option Nat) : Int := match o with
  | some i => i
  | none => -1
theorem hix_some {l : List Dm} {k : Int} {i : Nat} (hi : i < l.length) (h : l[i].sq = k) (hn : ∀ j (hj : j < l.length), j < i → l[j].sq ≠ k) : hix l k = some i := by
  unfold hix
  rw [List.findIdx?_eq_some_iff_getElem]
  refine ⟨hi, by simpa using h, fun j hj => ?_⟩
  simpa using hn j (by omega) hj
theorem hix_none {l : List Dm} {k : Int} (hn : ∀ j (hj : j < l.length), l[j].sq ≠ k) : hix l k = none := by
  unfold hix
  rw [List.findIdx?_eq_none_iff]
  intro x hx
  obtain ⟨j, hj, rfl⟩ := List.getElem_of_mem hx
  simpa using hn j hj
theorem rheld_any (d sq gr k : Int) (n1 n2 c1 c2 c3 b : Nat) (p1 p2 p3 : Option Addr) (l : List Dm) (la : Dm) (w : World) (h : Dw b w p3 c3 l) : Calls Try.prog 55 #[.agg #[.int .i64 d, .int .u64 sq, .slice p1 n1 c1, .slice p2 n2 c2, .slice p3 l.length c3, .int .u64 gr, .int .u64 la.sq, .int .i64 la.kd, .int .i64 la.sd, .int .i64 la.pr, .int .u64 la.qt, .int .i64 la.ct], .int .u64 k] w fun e w' => e = .returned (.int .i64 (hixI (hix l k))) ∧ Below w.heap.size w w' := by
  have hmax := (own_cap h).2.1
  have hcap := (own_cap h).1
  unfold maxLen at hmax
  obtain ⟨n, hn⟩ : ∃ n, l.length = n := ⟨_, rfl⟩
  have HN := hid hn
  rw [hn] at hcap ⊢
  obtain ⟨R, hR⟩ : ∃ R, w.heap.size = R := ⟨_, rfl⟩
  obtain ⟨W, hW⟩ : ∃ W, w.alloc (.cells #[.int .i64 d, .int .u64 sq, .slice p1 n1 c1, .slice p2 n2 c2, .slice p3 n c3, .int .u64 gr, .int .u64 la.sq, .int .i64 la.kd, .int .i64 la.sd, .int .i64 la.pr, .int .u64 la.qt, .int .i64 la.ct] 57) = W := ⟨_, rfl⟩
  have hb0 : Below w.heap.size w W := by rw [← hW]; exact ball _ _
  have HS := hid (show W.heap[R]? = some (.cells #[.int .i64 d, .int .u64 sq, .slice p1 n1 c1, .slice p2 n2 c2, .slice p3 n c3, .int .u64 gr, .int .u64 la.sq, .int .i64 la.kd, .int .i64 la.sd, .int .i64 la.pr, .int .u64 la.qt, .int .i64 la.ct] 57 (0, 0)) from by rw [← hW, ← hR]; exact World.alloc_heap_new _ _)
  have HL := hid (h.on hb0)
  have HB := hid hb0
  have HW := hid hW
  have HR := hid hR
  have k4 := row_cell HS.out 4
  clear h hn hb0 hW hR
  go_enter Try.func55, Try.ntmps55
  go_upto_region 1 with fail
  rw [HW.out, HR.out]
  go_wp2
  go_loop [5] (fun iv => ∃ i : Nat, i ≤ n ∧ iv = .int .i64 i ∧ Hid (∀ j (hj : j < l.length), j < i → l[j].sq ≠ k)) (fun iv => n - (intOf iv).toNat)
  case atStart => exact ⟨0, by omega, rfl, fun k _ hk => by omega⟩
  case round =>
    obtain ⟨i, hi, rfl, HP⟩ := hrel
    by_cases hlt : i < n
    · have hil : i < l.length := by have := HN.out; omega
      obtain ⟨g, rfl, sg, a0, a1, a2, a3, a4, a5⟩ := HL.out.cells hil
      obtain ⟨z, hz⟩ : ∃ z, l[i] = z := ⟨_, rfl⟩
      rw [hz] at a0 a1 a2 a3 a4 a5
      have HZ' := hid hz
      have i0 : (0 : Int) ≤ (i : Int) := by omega
      have i1 : (i : Int) < (n : Int) := by omega
      by_cases hx : z.sq = k
      · have q : (z.sq == k) = true := by simpa using hx
        have E := hid (show hixI (hix l k) = i from by rw [hix_some hil (by rw [hz]; exact hx) HP.out]; rfl)
        clear hx hz
        go_wp2
        go_ret
        exact ⟨by rw [E.out]; rfl, HB.out⟩
      · have q : (z.sq == k) = false := by simpa using hx
        have HX := hid hx
        clear hx hz
        go_wp2
        go_round
        case rel => exact ⟨i + 1, by omega, by go_num, fun k hk hki => by
          by_cases e : k = i
          · subst e; rw [HZ'.out]; exact HX.out
          · exact HP.out k hk (by omega)⟩
        case measure => simp [intOf]; omega
    · have E := hid (show hixI (hix l k) = -1 from by rw [hix_none (fun j hj => HP.out j hj (by have := HN.out; omega))]; rfl)
      go_wp2
      go_ret
      exact ⟨by rw [E.out]; rfl, HB.out⟩
theorem can_any (sq : Int) (p1 p2 : Option Addr) (c1 c2 : Nat) (l1 l2 : List Lv) (w : World) (h1 : Rl w p1 c1 l1) (h2 : Rl w p2 c2 l2) : Calls Try.prog 61 #[.agg #[.int .u64 sq, .slice p1 l1.length c1, .slice p2 l2.length c2]] w fun e w' => e = .returned (.bool (lok 1 l1 && lok 2 l2)) ∧ Below w.heap.size w w' := by
  obtain ⟨R, hR⟩ : ∃ R, w.heap.size = R := ⟨_, rfl⟩
  obtain ⟨n1, hn1⟩ : ∃ n, l1.length = n := ⟨_, rfl⟩
  obtain ⟨n2, hn2⟩ : ∃ n, l2.length = n := ⟨_, rfl⟩
  obtain ⟨W, hW⟩ : ∃ W, w.alloc (.cells #[.int .u64 sq, .slice p1 n1 c1, .slice p2 n2 c2] 30) = W := ⟨_, rfl⟩
  have hb0 : Below w.heap.size w W := by rw [← hW]; exact ball _ _
  have HP := hid (show W.heap[R]? = some (.cells #[.int .u64 sq, .slice p1 n1 c1, .slice p2 n2 c2] 30 (0, 0)) from by rw [← hW, ← hR]; exact World.alloc_heap_new _ _)
  have HB := hid hb0
  have HW := hid hW
  have HR := hid hR
  have C1 := hid (levels_any 1 p1 c1 l1 W (h1.on hb0))
  have C2 := hid (fun (U : World) (hU : Below W.heap.size W U) => on_b (levels_any 2 p2 c2 l2 U ((h2.on hb0).on hU)) hU)
  rw [hn1] at C1
  rw [hn2] at C2
  rw [hn1, hn2]
  have k1 := row_cell HP.out 1
  clear h1 h2 hb0 hW hR hn1 hn2
  cases e1 : lok 1 l1 with
  | false =>
    rw [e1] at C1
    go_enter Try.func61, Try.ntmps61
    go_upto_region 1 with fail
    rw [HW.out, HR.out]
    go_wp2_with (go_at_call 30; with_reducible refine (C1.out).mono ?_; rintro e V ⟨rfl, hb⟩; have B1 := hid hb; clear hb)
    go_ret
    exact ⟨rfl, btr HB.out B1.out⟩
  | true =>
    rw [e1] at C1
    go_enter Try.func61, Try.ntmps61
    go_upto_region 1 with fail
    rw [HW.out, HR.out]
    go_wp2_with (first | (go_at_call 30; with_reducible refine (C1.out).mono ?_; rintro e V ⟨rfl, hb⟩; have B1 := hid hb; have k2 := row_cell (row_on HP.out hb) 2; have C3 := hid (C2.out V hb); clear hb) | (go_at_call 30; with_reducible refine (C3.out).mono ?_; rintro e V2 ⟨rfl, B2⟩))
    go_ret
    exact ⟨by simp, btr HB.out B2.out⟩
end Go.Proofs.Ytiphgfghdbmlcaa
