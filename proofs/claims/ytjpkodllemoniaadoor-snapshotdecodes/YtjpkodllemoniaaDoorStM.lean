/-
  distinct: of orders whose IDs differ.
-/
import Derived.Test.YtjpkodllemoniaaDoorSsL
import Derived.Test.YtjpkodllemoniaaDoorStB
namespace Go.Proofs.YtjpkodllemoniaaDoor.Sr
open Go.RowKit Go.Deep
set_option linter.unusedVariables false
set_option linter.unusedSimpArgs false
set_option maxHeartbeats 8000000
set_option maxRecDepth 100000
/-- Compact of numbers that all differ: all stay. -/
theorem compact_any (g cap n : Nat) (l : List Int) (w : World) (h : Uz w g n l) (hd : l.Nodup) (hn : n ≤ 1152921504606846976) :
    Calls Tryd.prog 52 #[.slice (some ⟨g, 0, none⟩) n cap] w fun e w' => e = .returned (.slice (some ⟨g, 0, none⟩) n cap) ∧ Below w.heap.size w w' := by
  have HU := hid h
  have HD := hid (show ∀ i j, i < n → j < n → i ≠ j → gd l i ≠ gd l j from fun i j hi hj hij e => by
    have hl := h.len
    have e1 : gd l i = l[i] := by unfold gd; rw [List.getD_eq_getElem?_getD, List.getElem?_eq_getElem (by omega)]; rfl
    have e2 : gd l j = l[j] := by unfold gd; rw [List.getD_eq_getElem?_getD, List.getElem?_eq_getElem (by omega)]; rfl
    rw [e1, e2] at e
    have hp := List.pairwise_iff_getElem.1 hd
    rcases Nat.lt_or_gt_of_ne hij with hh | hh
    · exact hp i j (by omega) (by omega) hh e
    · exact hp j i (by omega) (by omega) hh e.symm)
  clear h hd
  by_cases h2 : n < 2
  · have i2 : (n : Int) < 2 := by omega
    go_enter Tryd.func52, Tryd.ntmps52
    go_wp2
    go_ret
    exact ⟨rfl, Below.refl _ _⟩
  · have i2 : ¬ (n : Int) < 2 := by omega
    have d2 : decide ((n : Int) < 2) = false := decide_eq_false i2
    go_enter Tryd.func52, Tryd.ntmps52
    go_upto_region 4 with fail
    go_loopw [3] (fun kv wr => ∃ k : Nat, kv = .int .i64 k ∧ 1 ≤ k ∧ k ≤ n ∧ Hid (Below w.heap.size w wr)) (fun kv _ => n + 1 - (intOf kv).toNat)
    case atStart => exact ⟨1, rfl, by omega, by omega, hid (Below.refl _ _)⟩
    case round =>
      obtain ⟨k, rfl, k1, kn, HB⟩ := hrel
      by_cases hk : k < n
      · have ik : (k : Int) < (n : Int) := by omega
        have k0' : (0 : Int) ≤ (k : Int) := by omega
        obtain ⟨j, hj⟩ : ∃ j, k = j + 1 := ⟨k - 1, by omega⟩
        have wj : IntKind.i64.wrap ((k : Int) - 1) = (j : Int) := by rw [IntKind.wrap_i64]; omega
        have wk : IntKind.i64.wrap ((k : Int) + 1) = ((k + 1 : Nat) : Int) := by rw [IntKind.wrap_i64]; omega
        have j0' : (0 : Int) ≤ (j : Int) := by omega
        have j2 : (j : Int) < (n : Int) := by omega
        obtain ⟨cur, hc, _⟩ := HU.out.row
        have u1 := HU.out.same (HB.out.block g (row_lt hc))
        have ne := HD.out k j hk (by omega) (by omega)
        obtain ⟨y, hy⟩ : ∃ y, gd l k = y := ⟨_, rfl⟩
        obtain ⟨z, hz⟩ : ∃ y, gd l j = y := ⟨_, rfl⟩
        rw [hy, hz] at ne
        have cy : wr.cell? ⟨g, k, none⟩ = some (.int .u64 y) := by rw [← hy]; exact u1.cell hk
        have cz : wr.cell? ⟨g, j, none⟩ = some (.int .u64 z) := by rw [← hz]; exact u1.cell (by omega)
        have eyz : (y == z) = false := by simpa using ne
        clear hj hc u1 hy hz ne
        go_upto_region 6 with fail
        go_quiet (fail)
        have HB2 := hid (show Below w.heap.size w (wr.drewN nq) from HB.out.trans ⟨rfl, rfl, rfl, Nat.le_refl _, fun _ _ => rfl⟩)
        go_wp2
        go_roundw
        case rel => exact ⟨k + 1, by go_num, by omega, by omega, HB2⟩
        case measure => first | (simp [intOf]; done) | (simp [intOf]; omega)
      · have ik : ¬ (k : Int) < (n : Int) := by omega
        have dk : decide ((k : Int) < (n : Int)) = false := decide_eq_false ik
        go_wp2
        go_ret
        exact ⟨rfl, HB.out⟩
theorem dup_near : ∀ {l : List Int}, l.Pairwise (· ≤ ·) → ¬ l.Nodup → ∃ i, i + 1 < l.length ∧ gd l (i + 1) = gd l i
  | [], _, hd => absurd List.nodup_nil hd
  | [x], _, hd => absurd (by simp) hd
  | x :: y :: r, hs, hd => by
    by_cases e : y = x
    · exact ⟨0, by simp, by simp [gd, e]⟩
    · have h1 := List.pairwise_cons.1 hs
      have hxy : x ≤ y := h1.1 y (by simp)
      have h2 := List.pairwise_cons.1 h1.2
      have ht : ¬ (y :: r).Nodup := fun hn => hd (List.nodup_cons.2 ⟨fun hm => by
        rcases List.mem_cons.1 hm with e1 | e1
        · exact e e1.symm
        · have := h2.1 x e1
          omega, hn⟩)
      obtain ⟨i, a1, a2⟩ := dup_near h1.2 ht
      exact ⟨i + 1, by simpa using a1, by simpa [gd] using a2⟩
end Go.Proofs.YtjpkodllemoniaaDoor.Sr
