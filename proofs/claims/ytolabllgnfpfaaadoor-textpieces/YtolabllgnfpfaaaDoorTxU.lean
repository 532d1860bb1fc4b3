/-
  The law's same and full.
-/
import Derived.Test.YtolabllgnfpfaaaDoorTxK
import Derived.Deep.AppendLies
namespace Go.Proofs.YtolabllgnfpfaaaDoor
open Go.RowKit Go.Deep Go.Lib Go.Shelf Go.Sort
set_option linter.unusedVariables false

theorem grown_refl (w : World) (row : Option Nat) : w.grownBy w row := ⟨rfl, rfl, rfl, Nat.le_refl _, fun _ _ _ => rfl⟩
/-- the old row, or a block that is new. -/
def At (w : World) (row u : Option Nat) : Prop := u = row ∨ ∃ g, u = some g ∧ w.heap.size ≤ g
theorem grown_step {w a c : World} {row u : Option Nat} (h : w.grownBy a row) (k : a.grownBy c u) (hu : At w row u) : w.grownBy c row :=
  ⟨k.os.trans h.os, k.tape.trans h.tape, k.output.trans h.output, Nat.le_trans h.size k.size, fun j hj hr => (k.block j (Nat.lt_of_lt_of_le hj h.size) (by
    rcases hu with rfl | ⟨g, rfl, hg⟩
    · exact hr
    · intro e
      have : j = g := by simpa using e
      omega)).trans (h.block j hj hr)⟩
theorem own_alloc {w : World} {B n : Nat} {v : Value} {xs : List Value} (h : w.ownsRow B 5 1 v n xs) (o : Obj) : (w.alloc o).ownsRow B 5 1 v n xs := by
  refine ⟨h.1, ?_⟩
  rcases h.2 with h2 | ⟨g, cap, cur, e, hB, hg, r⟩
  · exact Or.inl h2
  · refine Or.inr ⟨g, cap, cur, e, hB, ?_, r⟩
    have hlt : g < w.heap.size := by
      rcases Nat.lt_or_ge g w.heap.size with h | h
      · exact h
      · rw [Array.getElem?_eq_none h] at hg; cases hg
    rw [Below.heap_alloc w o g hlt]; exact hg

theorem news_one (w : World) : ∀ (j : Nat) (u : Value), ([.int .u8 3] : List Value)[j]? = some u → (w.alloc (.cells #[.int .u8 3] 5)).cell? ((⟨w.heap.size, 0, none⟩ : Addr).add j) = some u := by
  intro j u hj
  match j, hj with
  | 0, hj => simp at hj; subst hj; simp [Addr.add]
  | (j + 1), hj => simp at hj
theorem one_one : ∀ u ∈ ([.int .u8 3] : List Value), u.oneCell' = true := by
  intro u hu; simp at hu; subst hu; rfl

set_option maxHeartbeats 2000000 in
set_option maxRecDepth 100000 in
/-- the law's full. -/
theorem full_any (v : Value) (n B : Nat) (xs : List Value) (w : World) (hn : n ≤ 5000) (hB : B ≤ w.heap.size) (hown : w.ownsRow B 5 1 v n xs) :
    Calls Tryd.prog 10 #[v, .int .u8 3] w fun e w' => e = .returned (.tuple #[]) ∧ w.grownBy w' v.ownBlock := by
  obtain ⟨q, cap, hv⟩ : ∃ q cap, v = .slice q n cap := by
    rcases hown.2 with ⟨h, h0⟩ | ⟨g, c, cur, h, _⟩
    · exact ⟨none, 0, by rw [h, h0]⟩
    · exact ⟨_, c, h⟩
  subst hv
  have HO := hid hown
  obtain ⟨i0, hi, hz0, hz1, hz2⟩ := info_parts info5all
  have HI := hid hi
  have HZ0 := hid hz0
  have HZ1 := hid hz1
  have HZ2 := hid hz2
  clear hown hi hz0 hz1 hz2
  go_enter Tryd.func10, Tryd.ntmps10
  go_wp2_with fail
  go_loopw [4] (fun iv wr => ∃ k : Nat, k ≤ n ∧ iv = .int .i64 k ∧ Hid (∃ xs, wr.ownsRow B 5 1 (.slice q n cap) n xs) ∧ Hid (w.grownBy wr (Value.slice q n cap).ownBlock)) (fun iv _ => n - (RowKit.intOf iv).toNat)
  case atStart => exact ⟨0, Nat.zero_le _, rfl, hid ⟨xs, HO.out⟩, hid (grown_refl _ _)⟩
  case round =>
    obtain ⟨k, hk, rfl, HX, HG⟩ := hrel
    by_cases hlt : k < n
    · obtain ⟨ys, hy⟩ := HX.out
      obtain ⟨g, c, e, hBg, hgl⟩ := hy.form (by omega)
      obtain ⟨rfl, rfl⟩ : q = some ⟨g, 0, none⟩ ∧ cap = c := by simpa using e
      have hlen := hy.1
      have hcell := hy.cellAt k (by omega)
      rw [List.getElem?_eq_getElem (by omega)] at hcell
      have hfr := hy.frozenAt k
      obtain ⟨s1, s2⟩ := hy.stored k (.int .u8 3)
      have S1 := hid s1
      have S2 := hid s2
      have i0 : (0 : Int) ≤ (k : Int) := by omega
      have i1 : (k : Int) < (n : Int) := by omega
      obtain ⟨u, hu⟩ : ∃ u, ys[k]'(by omega) = u := ⟨_, rfl⟩
      rw [hu] at hcell
      clear hy hlen s1 s2 hu e
      go_wp2
      go_roundw
      case rel => exact ⟨k + 1, by omega, by go_num, hid ⟨_, S1.out⟩, hid (grown_step HG.out S2.out (Or.inl rfl))⟩
      case measure => simp [RowKit.intOf]; omega
    · go_wp2_with fail
      go_loopw [0, 5] (fun bv iv wr => ∃ j : Nat, j ≤ 90 ∧ iv = .int .i64 j ∧ Hid (∃ xs, wr.ownsRow B 5 1 bv (n + j) xs) ∧ Hid (w.grownBy wr (Value.slice q n cap).ownBlock) ∧ Hid (At w (Value.slice q n cap).ownBlock bv.ownBlock)) (fun _ iv _ => 90 - (RowKit.intOf iv).toNat)
      case atStart => exact ⟨0, by omega, rfl, HX, HG, hid (Or.inl rfl)⟩
      case round =>
        obtain ⟨j, hj, rfl, HX2, HG2, HA2⟩ := hrel
        by_cases hjl : j < 90
        · obtain ⟨ys, hy⟩ := HX2.out
          have HY := hid (own_alloc hy (.cells #[.int .u8 3] 5))
          have j0 : (0 : Int) ≤ (j : Int) := by omega
          have j1 : (j : Int) < 90 := by omega
          have HBw := hid (Nat.le_trans hB HG2.out.size)
          clear hy
          go_wp2_with (at_builtin; refine wpList_append_lies _ (by rfl) (.tmp 20) (.tmp 22) 26 (by rfl) B 5 i0 (.int .u8 0) 1 1 Tryd.underlying26 HI.out HZ0.out HZ1.out HZ2.out rfl (by decide) _ (n + j) ys (by rfl) HY.out ⟨wr.heap.size, 0, none⟩ 1 1 [.int .u8 3] (by rfl) rfl (news_one wr) one_one (by decide) (by unfold maxLen; omega) (by omega) (by have := HBw.out; simp; omega) (wr.heap.size + 1) (by simp) ?_; intro g c w1 hown1 hgrow hat hglt; have O1 := hid hown1; have G1 := hid hgrow; have A1 := hid hat; clear hown1 hgrow hat hglt)
          go_roundw
          case rel =>
            refine ⟨j + 1, by omega, by go_num, hid ⟨_, by rw [← Nat.add_assoc]; exact O1.out⟩, hid (grown_step (grown_step HG2.out (World.grownBy_alloc _ _ _) (Or.inl rfl)) G1.out HA2.out), hid ?_⟩
            rcases A1.out with h | h
            · rw [show (Value.slice (some ⟨g, 0, none⟩) (n + j + 1) c).ownBlock = some g from rfl, ← h]; exact HA2.out
            · exact Or.inr ⟨g, rfl, by have := HG2.out.size; omega⟩
          case measure => simp [RowKit.intOf]; omega
        · go_wp2
          go_end0
          exact ⟨rfl, HG2.out⟩
end Go.Proofs.YtolabllgnfpfaaaDoor
