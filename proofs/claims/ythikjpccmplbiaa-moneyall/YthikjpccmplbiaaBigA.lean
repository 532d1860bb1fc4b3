/-
  The document's whole numbers in memory; trimmed, word.
-/
import Derived.Test.YthikjpccmplbiaaNumA
import Derived.Test.YthikjpccmplbiaaBigM
import Derived.WalkLawsBesides
import Derived.Deep.QuietTactic
import Derived.BigQuiet
import Derived.RangeFuncRecord
namespace Go.Proofs.Ythikjpccmplbiaa
open Go.RowKit BigM
set_option linter.unusedVariables false


/-- the digits at an address, in a world. -/
def CellsAt (w : World) (b o : Nat) (ds : List Int) : Prop := (∃ cur, w.heap[b]? = some (.cells cur 37 (0, 0))) ∧ ∀ j, j < ds.length → w.cell? ⟨b, o + j, none⟩ = some (.int .u32 (at0 ds j))
/-- a slice reads as these digits. -/
def Rd (w : World) (v : Value) (ds : List Int) : Prop :=
  (v = .slice none 0 0 ∧ ds = []) ∨ ∃ b o cap, v = .slice (some ⟨b, o, none⟩) ds.length cap ∧ ds.length ≤ cap ∧ cap ≤ maxLen ∧ CellsAt w b o ds
/-- a slice is the whole number n. -/
def Bn (w : World) (v : Value) (n : Int) : Prop := ∃ ds, Rd w v ds ∧ Dig ds ∧ Trm ds ∧ val ds = n

theorem alloc_cells (w : World) (cs : Array Value) : ∃ cur, (w.alloc (.cells cs 37)).heap[w.heap.size]? = some (.cells cur 37 (0, 0)) := ⟨cs, World.alloc_heap_new _ _⟩
theorem CellsAt.lt {w : World} {b o : Nat} {ds : List Int} (h : CellsAt w b o ds) : b < w.heap.size := by
  obtain ⟨⟨cur, e⟩, _⟩ := h
  exact (Array.getElem?_eq_some_iff.1 e).1
theorem CellsAt.below {w w' : World} {B b o : Nat} {ds : List Int} (h : CellsAt w b o ds) (hb : Below B w w') (hB : w.heap.size ≤ B) : CellsAt w' b o ds := by
  have hl := h.lt
  obtain ⟨⟨cur, e⟩, h2⟩ := h
  exact ⟨⟨cur, (hb.block b (by omega)).trans e⟩, fun j hj => (hb.cell (p := ⟨b, o + j, none⟩) (by show b < B; omega)).trans (h2 j hj)⟩
theorem Rd.below {w w' : World} {B : Nat} {v : Value} {ds : List Int} (h : Rd w v ds) (hb : Below B w w') (hB : w.heap.size ≤ B) : Rd w' v ds := by
  rcases h with h | ⟨b, o, cap, h1, h2, h3, h4⟩
  · exact .inl h
  · exact .inr ⟨b, o, cap, h1, h2, h3, h4.below hb hB⟩
theorem Bn.below {w w' : World} {B : Nat} {v : Value} {n : Int} (h : Bn w v n) (hb : Below B w w') (hB : w.heap.size ≤ B) : Bn w' v n := by
  obtain ⟨ds, h1, h2⟩ := h
  exact ⟨ds, h1.below hb hB, h2⟩
theorem Bn.to {w w' : World} {v : Value} {n : Int} (h : Bn w v n) (hb : Below w.heap.size w w') : Bn w' v n := h.below hb (Nat.le_refl _)
theorem Bn.nonneg {w : World} {v : Value} {n : Int} (h : Bn w v n) : 0 ≤ n := by
  obtain ⟨ds, h1, h2, h3, rfl⟩ := h
  exact val_nonneg _ h2
/-- a slice's shape, for a walk. -/
theorem Rd.shape {w : World} {v : Value} {ds : List Int} (h : Rd w v ds) : ∃ a cap, v = .slice a ds.length cap ∧ ds.length ≤ maxLen ∧ (0 < ds.length → ∃ b o, a = some ⟨b, o, none⟩ ∧ CellsAt w b o ds) := by
  rcases h with ⟨rfl, rfl⟩ | ⟨b, o, cap, rfl, h2, h3, h4⟩
  · exact ⟨none, 0, rfl, by simp, fun h => by simp at h⟩
  · exact ⟨_, cap, rfl, by omega, fun _ => ⟨b, o, rfl, h4⟩⟩

theorem rd_nil (w : World) : Rd w (.slice none 0 0) [] := .inl ⟨rfl, rfl⟩

set_option maxHeartbeats 400000 in
theorem trimmed_nil (w : World) : Calls Try.prog 43 #[.slice none 0 0] w fun e w' => e = .returned (.slice none 0 0) ∧ w' = w := by
  go_enter Try.func43, Try.ntmps43
  go_wp2
  go_loop [3] (fun n => n = .int .i64 0) (fun _ => 0)
  case atStart => rfl
  case round =>
    subst hrel
    go_wp2
    go_ret
    exact ⟨rfl, rfl⟩

set_option maxHeartbeats 1000000 in
theorem trimmed_row (w : World) (b o cap : Nat) (ds : List Int) (hl : ds.length ≤ cap) (hm : cap ≤ maxLen) (hc : CellsAt w b o ds) :
    Calls Try.prog 43 #[.slice (some ⟨b, o, none⟩) ds.length cap] w fun e w' =>
      (∃ k, k ≤ ds.length ∧ e = .returned (.slice (some ⟨b, o, none⟩) k cap) ∧ val (ds.take k) = val ds ∧ (0 < k → at0 ds (k - 1) ≠ 0)) ∧ w' = w := by
  unfold maxLen at hm
  obtain ⟨hc1, hc2⟩ := hc
  go_enter Try.func43, Try.ntmps43
  go_wp2
  go_loop [3] (fun n => ∃ k : Nat, k ≤ ds.length ∧ n = .int .i64 k ∧ Hid (val (ds.take k) = val ds)) (fun n => (intOf n).toNat)
  case atStart => exact ⟨ds.length, Nat.le_refl _, rfl, by show val (ds.take ds.length) = val ds; rw [List.take_length]⟩
  case round =>
    obtain ⟨k, hk, rfl, HV⟩ := hrel
    by_cases h0 : k = 0
    · subst h0
      go_wp2
      go_ret
      exact ⟨⟨0, Nat.zero_le _, rfl, HV.out, fun h => by omega⟩, rfl⟩
    · obtain ⟨m, rfl⟩ : ∃ m, k = m + 1 := ⟨k - 1, by omega⟩
      have hcell := hc2 m (by omega)
      have hst := val_take_step ds m
      obtain ⟨x, hx⟩ : ∃ x, at0 ds m = x := ⟨_, rfl⟩
      rw [hx] at hcell hst
      have HX : Hid (at0 ds m = x) := hx
      have HS : Hid (val (ds.take (m + 1)) = val (ds.take m) + pw m * x) := hst
      clear hx hst hc2
      have hlt : (0 : Int) < (m : Int) + 1 := by omega
      by_cases hx0 : x = 0
      · subst hx0
        go_wp2
        go_round
        case rel => exact ⟨m, by omega, by go_num, by show val (ds.take m) = val ds; have := HS.out; have := HV.out; omega⟩
        case measure => simp [intOf]
      · have hxb : (x == 0) = false := by simpa using hx0
        go_wp2
        go_ret
        exact ⟨⟨m + 1, by omega, rfl, HV.out, fun _ => by rw [Nat.add_sub_cancel, HX.out]; exact hx0⟩, rfl⟩

theorem trimmed_any (w : World) (v : Value) (ds : List Int) (h : Rd w v ds) (hd : Dig ds) :
    Calls Try.prog 43 #[v] w fun e w' => (∃ u, e = .returned u ∧ Bn w u (val ds)) ∧ w' = w := by
  rcases h with ⟨rfl, rfl⟩ | ⟨b, o, cap, rfl, h2, h3, h4⟩
  · refine (trimmed_nil w).mono ?_
    rintro e w' ⟨rfl, rfl⟩
    exact ⟨⟨_, rfl, [], rd_nil _, dig_nil, fun h => by simp at h, rfl⟩, rfl⟩
  · refine (trimmed_row w b o cap ds h2 h3 h4).mono ?_
    rintro e w' ⟨⟨k, hk, rfl, hv, ht⟩, rfl⟩
    refine ⟨⟨_, rfl, ds.take k, .inr ⟨b, o, cap, ?_, by simp; omega, h3, h4.1, ?_⟩, hd.take k, ?_, hv⟩, rfl⟩
    · have : (ds.take k).length = k := by simp; omega
      rw [this]
    · intro j hj
      have hj' : j < k := by simp at hj; omega
      rw [h4.2 j (by omega)]
      simp [at0, hj']
    · intro hl
      have e : (ds.take k).length = k := by simp; omega
      rw [e] at hl ⊢
      have := ht hl
      simpa [at0, List.getElem?_take, show k - 1 < k by omega] using this
end Go.Proofs.Ythikjpccmplbiaa
