/-
  Own bytes grow by noughts; a writer; a number is put.
-/
import Derived.Test.YtjpkodllemoniaaDoorWiC
import Derived.Test.YtjpkodllemoniaaDoorCpE
import Derived.Lib.AppendZerosOnto
namespace Go.Proofs.YtjpkodllemoniaaDoor.Wi
open Go.RowKit Go.Deep Go.Proofs.YtjpkodllemoniaaDoor.Crc
open Go.Proofs.YtjpkodllemoniaaDoor.Cp (btr ball row_on row_cell row_lt Kp setRow_kp own_same)
set_option linter.unusedVariables false
set_option linter.unusedSimpArgs false
set_option maxHeartbeats 8000000
set_option maxRecDepth 100000
theorem info_parts {t : TypeId} {z : Value} {a b : Nat} (h : (Tryd.prog.info? t).map (fun i => (i.zero, i.size, i.bytes)) = some (some z, a, b)) : ∃ i, Tryd.prog.info? t = some i ∧ i.zero = some z ∧ i.size = a ∧ i.bytes = b := by
  cases hi : Tryd.prog.info? t with
  | none => rw [hi] at h; cases h
  | some i => rw [hi] at h; simp at h; exact ⟨i, rfl, h⟩
theorem info5all : (Tryd.prog.info? 5).map (fun i => (i.zero, i.size, i.bytes)) = some (some (.int .u8 0), 1, 1) := by kernel_rfl
theorem zc (k : Nat) : Builtin.zeroCells (Value.cells (.int .u8 0)) k = (bv (List.replicate k 0)).toArray := by
  have h : Value.cells (.int .u8 0) = #[.int .u8 0] := rfl
  rw [h]
  apply Array.ext
  · rw [size_zeroCells]; simp [bv]
  · intro i h1 h2
    simp [Builtin.zeroCells, bv]
    exact Nat.mod_one i ▸ rfl
theorem run_own_zeros (w : World) (t ty : TypeId) (ht : Tryd.prog.underlying t = some (.slice 5)) {base g n cap k : Nat} {xs : List Nat}
    (hown : w.ownsRow base 5 1 (.slice (some ⟨g, 0, none⟩) n cap) n (bv xs)) (hk : 0 < k) (hn : n + k ≤ 1000000000) (hbase : base ≤ w.heap.size) :
    ∃ g' cap' w', (Builtin.append_ #[t, 3] ty #[.slice (some ⟨g, 0, none⟩) n cap, .int .i64 k]).run Tryd.prog w = .ok (.slice (some ⟨g', 0, none⟩) (n + k) cap') w' ∧
      w'.ownsRow base 5 1 (.slice (some ⟨g', 0, none⟩) (n + k) cap') (n + k) (bv (xs ++ List.replicate k 0)) ∧ w.grownBy w' (some g) := by
  obtain ⟨i, hi, hz, h1, h2⟩ := info_parts info5all
  have htn : Tryd.prog.underlying 3 = some (.int .i64) := Tryd.underlying3
  rcases hown.2 with ⟨h, _⟩ | ⟨g', cap', cur, h, hbg, hg, hnc, hcm, hcs, htake⟩
  · simp at h
  simp only [Value.slice.injEq, Option.some.injEq, Addr.mk.injEq, and_true, true_and] at h
  obtain ⟨rfl, rfl⟩ := h
  have hxl : (bv xs).length = n := by have := hown.1; omega
  by_cases hroom : n + k ≤ cap
  · have hst := run_storeCells_at Tryd.prog g n 5 (bv (List.replicate k 0)) 0 cur w hg (by simp [bv_len]; omega) (bv_one _)
    simp only [Nat.add_zero] at hst
    have hw : IntKind.i64.wrap (k : Int) = k := by rw [IntKind.wrap_i64]; omega
    have hneg : ¬ ((k : Int) < 0) := by omega
    have h48i : ¬ (281474976710656 < (k : Int)) := by omega
    have hns : ¬ (k = 0) := by omega
    obtain ⟨R, hR⟩ : ∃ R, (cur.toList.take n ++ bv (List.replicate k 0) ++ cur.toList.drop (n + (bv (List.replicate k 0)).length)).toArray = R := ⟨_, rfl⟩
    rw [hR] at hst
    refine ⟨g, cap, w.setRow g R, ?_, ⟨by rw [bv_append, List.length_append, hxl, bv_len, List.length_replicate]; omega, .inr ⟨g, cap, _, rfl, hbg, setRow_heap w g cur _ 5 _ hg, hroom, hcm, ?_, ?_⟩⟩, ⟨rfl, rfl, rfl, by simp, fun q _ hq => setRow_other w g q _ (fun e => hq (by rw [e]))⟩⟩
    · simp [Builtin.append_, run_underlying ht, run_underlying htn, sizeOf, typeInfo, zeroValue, hi, hz, h1, h2, asInt, asIntOf, hw, hroom, hneg, h48i, hns, Addr.add_lit, zc, hst]
    · rw [← hR]
      simp only [List.size_toArray, List.length_append, List.length_take, List.length_drop, Array.length_toList, bv_len, List.length_replicate]
      omega
    · rw [← hR]
      simp only [Nat.mul_one] at htake ⊢
      rw [htake, ← bv_append, show n + k = (bv (xs ++ List.replicate k 0)).length from by rw [bv_append, List.length_append, hxl, bv_len, List.length_replicate]]
      exact List.take_left
  · have hold : (Builtin.firstCells i.size n (.slice (some ⟨g, 0, none⟩) n cap)).run Tryd.prog w.drew = .ok (bv xs).toArray w.drew :=
      run_firstCells_some (P := Tryd.prog) w.drew i.size n ⟨g, 0, none⟩ n cap (bv xs) (by rw [h1]; omega) (fun j u hu => by
        have := hown.cells (g := g) rfl j u hu
        exact this)
    have hr := Go.Lib.run_append_grow_zeros (P := Tryd.prog) w t 3 ty 5 i (.int .u8 0) .i64 .i64 ht htn hi hz (some ⟨g, 0, none⟩) n cap (bv xs) hold k hk (by omega) (by omega) (by omega) (by rw [h2]; omega)
      (growslice_fits (by omega) (by rw [h2]; omega))
    have hge := grownCap_ge w (n + k) cap 5
    have hcm2 : grownCap w (n + k) cap 5 ≤ maxLen := grownCap_le_maxLen w (n + k) cap 5 (by unfold maxLen; omega)
    refine ⟨_, _, _, hr, ⟨by rw [bv_append, List.length_append, hxl, bv_len, List.length_replicate]; omega, .inr ⟨w.heap.size, _, _, rfl, hbase, heap_alloc_new w.drew _, hge, hcm2, ?_, ?_⟩⟩, ⟨rfl, rfl, rfl, by simp, fun q hq _ => heap_alloc_old w.drew _ hq⟩⟩
    · rw [zc, zc]
      simp only [Array.size_append, List.size_toArray, bv_len, List.length_replicate]
      rw [bv_len] at hxl
      omega
    · rw [zc, zc]
      simp only [Array.toList_append, Nat.mul_one]
      rw [← bv_append, show n + k = (bv (xs ++ List.replicate k 0)).length from by rw [bv_append, List.length_append, hxl, bv_len, List.length_replicate]]
      exact List.take_left
theorem own_splice {base : Nat} {w : World} {g cap n k : Nat} {xs zs ys : List Nat} (h : w.ownsRow base 5 1 (.slice (some ⟨g, 0, none⟩) (n + k) cap) (n + k) (bv (xs ++ zs))) (hx : xs.length = n) (hz : zs.length = k) (hy : ys.length = k) :
    ∃ L : List Value, w.heap[g]? = some (.cells L.toArray 5 (0, 0)) ∧ n + k ≤ L.length ∧ L.length = cap ∧ (w.setRow g (splice L n (bv ys)).toArray).ownsRow base 5 1 (.slice (some ⟨g, 0, none⟩) (n + k) cap) (n + k) (bv (xs ++ ys)) := by
  rcases h.2 with ⟨h, _⟩ | ⟨g', cap', cur, h', hbg, hg, hnc, hcm, hcs, htake⟩
  · simp at h
  simp only [Value.slice.injEq, Option.some.injEq, Addr.mk.injEq, and_true, true_and] at h'
  obtain ⟨rfl, rfl⟩ := h'
  simp only [Nat.mul_one] at htake hcs
  have hcl : cur.toList.length = cap := by rw [Array.length_toList]; exact hcs
  refine ⟨cur.toList, by simpa using hg, by omega, hcl, by rw [bv_len, List.length_append]; omega, .inr ⟨g, cap, _, rfl, hbg, setRow_heap w g cur _ 5 _ hg, hnc, hcm, ?_, ?_⟩⟩
  · simp only [splice, List.size_toArray, List.length_append, List.length_take, List.length_drop, bv_len]
    omega
  · have ht : cur.toList.take n = bv xs := by
      have := congrArg (List.take n) htake
      rw [List.take_take, Nat.min_eq_left (by omega), bv_append, List.take_left' (by rw [bv_len]; exact hx)] at this
      exact this
    simp only [Nat.mul_one, splice]
    rw [ht, ← List.append_assoc, ← bv_append, show n + k = (bv (xs ++ ys)).length from by rw [bv_len, List.length_append]; omega]
    exact List.take_left
/-- bytes and writers may change, nothing else; nothing at all below base. -/
def Kt (base : Nat) (w w' : World) : Prop := Below base w w' ∧ ∀ (k : Nat) (cs : Array Value) (e : TypeId), w.heap[k]? = some (Obj.cells cs e (0, 0)) → e ≠ 5 → e ≠ 41 → w'.heap[k]? = some (Obj.cells cs e (0, 0))
theorem Kt.refl (base : Nat) (w : World) : Kt base w w := ⟨Below.refl _ _, fun _ _ _ h _ _ => h⟩
theorem Kt.trans {base : Nat} {a b c : World} (h : Kt base a b) (k : Kt base b c) : Kt base a c := ⟨h.1.trans k.1, fun q cs e h1 h2 h3 => k.2 q cs e (h.2 q cs e h1 h2 h3) h2 h3⟩
theorem Kt.of {base : Nat} {w w' : World} (h : Below w.heap.size w w') (hb : base ≤ w.heap.size) : Kt base w w' := ⟨h.mono hb, fun _ _ _ h1 _ _ => row_on h1 h⟩
/-- a writer with what it has written, in a row of its own. -/
def Wo (base : Nat) (w : World) (B : Nat) (xs : List Nat) : Prop := base ≤ B ∧ ∃ g cap, w.heap[B]? = some (.cells #[.slice (some ⟨g, 0, none⟩) xs.length cap] 41 (0, 0)) ∧ w.ownsRow base 5 1 (.slice (some ⟨g, 0, none⟩) xs.length cap) xs.length (bv xs)
/-- bytes in a row of one's own, or in a full row that was made of a constant. -/
def Oc (base : Nat) (w : World) (g cap n : Nat) (xs : List Nat) : Prop := w.ownsRow base 5 1 (.slice (some ⟨g, 0, none⟩) n cap) n (bv xs) ∨ (base ≤ g ∧ cap = n ∧ xs.length = n ∧ ∃ fz, w.heap[g]? = some (.cells (bv xs).toArray 5 fz))
/-- a writer. -/
def Wr (base : Nat) (w : World) (B : Nat) (xs : List Nat) : Prop := base ≤ B ∧ ∃ g cap, w.heap[B]? = some (.cells #[.slice (some ⟨g, 0, none⟩) xs.length cap] 41 (0, 0)) ∧ Oc base w g cap xs.length xs
theorem Wo.wr {base : Nat} {w : World} {B : Nat} {xs : List Nat} (h : Wo base w B xs) : Wr base w B xs := by
  obtain ⟨h0, g, cap, h1, h2⟩ := h
  exact ⟨h0, g, cap, h1, .inl h2⟩
theorem Oc.on {base : Nat} {w w' : World} {g cap n : Nat} {xs : List Nat} (h : Oc base w g cap n xs) (hb : Below w.heap.size w w') : Oc base w' g cap n xs := by
  rcases h with h | ⟨h1, h2, h3, fz, h4⟩
  · exact .inl (Cp.own_on h hb)
  · exact .inr ⟨h1, h2, h3, fz, row_on h4 hb⟩
theorem Oc.row {base : Nat} {w : World} {g cap n : Nat} {xs : List Nat} (h : Oc base w g cap n xs) : base ≤ g ∧ ∃ cur fz, w.heap[g]? = some (.cells cur 5 fz) := by
  rcases h with h | ⟨h1, h2, h3, fz, h4⟩
  · rcases h.2 with ⟨h, _⟩ | ⟨g', cap', cur, h', hbg, hg, _⟩
    · simp at h
    · simp only [Value.slice.injEq, Option.some.injEq, Addr.mk.injEq, and_true, true_and] at h'
      obtain ⟨rfl, rfl⟩ := h'
      exact ⟨hbg, cur, _, hg⟩
  · exact ⟨h1, _, fz, h4⟩
theorem Wr.on {base : Nat} {w w' : World} {B : Nat} {xs : List Nat} (h : Wr base w B xs) (hb : Below w.heap.size w w') : Wr base w' B xs := by
  obtain ⟨h0, g, cap, h1, h2⟩ := h
  exact ⟨h0, g, cap, row_on h1 hb, h2.on hb⟩
theorem Wo.on {base : Nat} {w w' : World} {B : Nat} {xs : List Nat} (h : Wo base w B xs) (hb : Below w.heap.size w w') : Wo base w' B xs := by
  obtain ⟨h0, g, cap, h1, h2⟩ := h
  exact ⟨h0, g, cap, row_on h1 hb, Cp.own_on h2 hb⟩
theorem row_ne' {w : World} {g k : Nat} {t u : TypeId} {c d : Array Value} {f f' : Nat × Nat} (h : w.heap[g]? = some (.cells c t f)) (k' : w.heap[k]? = some (.cells d u f')) (ne : t ≠ u) : g ≠ k := by
  rintro rfl
  rw [h] at k'
  injection k' with k'
  injection k' with _ k'
  exact ne k'
theorem run_oc_zeros (w : World) (t ty : TypeId) (ht : Tryd.prog.underlying t = some (.slice 5)) {base g n cap k : Nat} {xs : List Nat}
    (ho : Oc base w g cap n xs) (hk : 0 < k) (hn : n + k ≤ 1000000000) (hbase : base ≤ w.heap.size) :
    ∃ g' cap' w', (Builtin.append_ #[t, 3] ty #[.slice (some ⟨g, 0, none⟩) n cap, .int .i64 k]).run Tryd.prog w = .ok (.slice (some ⟨g', 0, none⟩) (n + k) cap') w' ∧
      w'.ownsRow base 5 1 (.slice (some ⟨g', 0, none⟩) (n + k) cap') (n + k) (bv (xs ++ List.replicate k 0)) ∧ w.grownBy w' (some g) := by
  rcases ho with ho | ⟨hbg, rfl, hxl, fz, hg⟩
  · exact run_own_zeros w t ty ht ho hk hn hbase
  · obtain ⟨i, hi, hz, h1, h2⟩ := info_parts info5all
    have hxl' : (bv xs).length = cap := by rw [bv_len]; exact hxl
    have htn : Tryd.prog.underlying 3 = some (.int .i64) := Tryd.underlying3
    have hold : (Builtin.firstCells i.size cap (.slice (some ⟨g, 0, none⟩) cap cap)).run Tryd.prog w.drew = .ok (bv xs).toArray w.drew :=
      run_firstCells_some (P := Tryd.prog) w.drew i.size cap ⟨g, 0, none⟩ cap cap (bv xs) (by rw [h1]; omega) (fun j u hu => by
        rw [Addr.add_lit, Nat.zero_add]
        show w.cell? _ = _
        rw [show w.cell? ⟨g, j, none⟩ = (bv xs).toArray[j]? from by simp [World.cell?, hg]]
        simpa using hu)
    have hr := Go.Lib.run_append_grow_zeros (P := Tryd.prog) w t 3 ty 5 i (.int .u8 0) .i64 .i64 ht htn hi hz (some ⟨g, 0, none⟩) cap cap (bv xs) hold k hk (by omega) (by omega) (by omega) (by rw [h2]; omega)
      (growslice_fits (by omega) (by rw [h2]; omega))
    have hge := grownCap_ge w (cap + k) cap 5
    have hcm2 : grownCap w (cap + k) cap 5 ≤ maxLen := grownCap_le_maxLen w (cap + k) cap 5 (by unfold maxLen; omega)
    refine ⟨_, _, _, hr, ⟨by rw [bv_append, List.length_append, hxl', bv_len, List.length_replicate]; omega, .inr ⟨w.heap.size, _, _, rfl, hbase, heap_alloc_new w.drew _, hge, hcm2, ?_, ?_⟩⟩, ⟨rfl, rfl, rfl, by simp, fun q hq _ => heap_alloc_old w.drew _ hq⟩⟩
    · rw [zc, zc]
      simp only [Array.size_append, List.size_toArray, bv_len, List.length_replicate]
      omega
    · rw [zc, zc]
      simp only [Array.toList_append, Nat.mul_one]
      rw [← bv_append, show cap + k = (bv (xs ++ List.replicate k 0)).length from by rw [bv_append, List.length_append, hxl', bv_len, List.length_replicate]]
      exact List.take_left
end Go.Proofs.YtjpkodllemoniaaDoor.Wi
