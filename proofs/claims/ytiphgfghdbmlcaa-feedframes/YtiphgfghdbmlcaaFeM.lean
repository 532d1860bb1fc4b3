/-
  The first levels; pictures copied.
-/
import Derived.Test.YtiphgfghdbmlcaaFeL
namespace Go.Proofs.Ytiphgfghdbmlcaa
open Go.RowKit Go.Deep
set_option linter.unusedVariables false
set_option linter.unusedSimpArgs false
set_option maxHeartbeats 2000000
set_option maxRecDepth 100000
theorem Rl.take {w : World} {p : Option Addr} {c : Nat} {l : List Lv} (h : Rl w p c l) (m : Nat) : Rl w p c (l.take m) := by
  refine ⟨fun e => by rw [(h.nil e).1]; exact ⟨by simp, (h.nil e).2⟩, ?_, h.max, fun ad e j u hj => h.get ad e j u ?_⟩
  · have := h.cap; simp; omega
  · rw [lvc_take, List.getElem?_take] at hj
    split at hj
    · exact hj
    · cases hj
theorem row4 {w : World} {g : Nat} {t : TypeId} {a0 a1 a2 a3 : Value} (h : w.heap[g]? = some (.cells #[a0, a1, a2, a3] t (0, 0))) : w.cell? ⟨g, 0, none⟩ = some a0 ∧ w.cell? ⟨g, 1, none⟩ = some a1 ∧ w.cell? ⟨g, 2, none⟩ = some a2 ∧ w.cell? ⟨g, 3, none⟩ = some a3 :=
  ⟨row_cell h 0, row_cell h 1, row_cell h 2, row_cell h 3⟩
theorem row3 {w : World} {g : Nat} {t : TypeId} {a0 a1 a2 : Value} (h : w.heap[g]? = some (.cells #[a0, a1, a2] t (0, 0))) : w.cell? ⟨g, 0, none⟩ = some a0 ∧ w.cell? ⟨g, 1, none⟩ = some a1 ∧ w.cell? ⟨g, 2, none⟩ = some a2 :=
  ⟨row_cell h 0, row_cell h 1, row_cell h 2⟩
theorem first_any (B d : Nat) (sq : Int) (v1 v2 : Value) (p : Option Addr) (c : Nat) (l : List Lv) (w : World) (hB : w.heap[B]? = some (.cells #[.int .i64 d, .int .u64 sq, v1, v2] 77 (0, 0))) (h : Rl w p c l) (hd : d ≤ 64) :
    Calls Try.prog 28 #[.pointer (some ⟨B, 0, none⟩), .slice p l.length c] w fun e w' => ∃ p' c', e = .returned (.slice p' (l.take d).length c') ∧ Lo w.heap.size w' p' c' (l.take d) ∧ Below w.heap.size w w' := by
  have C := hid (copiedLevels_any p c (l.take d) w (h.take d) (by simp; omega))
  have hl : (l.take d).length = min d l.length := by simp
  obtain ⟨k0, _, _, _⟩ := row4 hB
  have hcap := h.cap
  have hmax := h.max
  unfold maxLen at hmax
  cases p with
  | none =>
    obtain ⟨rfl, rfl⟩ := h.nil rfl
    simp only [List.take_nil, List.length_nil] at C ⊢
    have hz : min (d : Int) 0 = 0 := by omega
    clear h hB hl
    go_enter Try.func28, Try.ntmps28
    go_wp2_with (go_at_call 49; with_reducible refine (C.out).mono ?_; rintro e w1 ⟨p', c', rfl, h1, h2⟩; have H1 := hid h1; have H2 := hid h2; clear h1 h2)
    go_ret
    exact ⟨p', c', by simp, H1.out, H2.out⟩
  | some ad =>
    obtain ⟨n, hn⟩ : ∃ n, l.length = n := ⟨_, rfl⟩
    obtain ⟨m, hm⟩ : ∃ m, min d n = m := ⟨_, rfl⟩
    rw [hl, hn, hm] at C
    rw [hl, hn, hm]
    have hmi : min (d : Int) (n : Int) = (m : Int) := by omega
    have m0 : (0 : Int) ≤ (m : Int) := by omega
    have m1 : (m : Int) ≤ (c : Int) := by omega
    have m2 : m ≤ c := by omega
    have HM := hid hm
    clear h hB hl hm
    rw [hn] at hcap
    clear hn
    go_enter Try.func28, Try.ntmps28
    go_wp2_with (go_at_call 49; with_reducible refine (C.out).mono ?_; rintro e w1 ⟨p', c', rfl, h1, h2⟩; have H1 := hid h1; have H2 := hid h2; clear h1 h2)
    go_ret
    exact ⟨p', c', by simp, H1.out, H2.out⟩
end Go.Proofs.Ytiphgfghdbmlcaa
