/-
  What is met: nothing is, without a last price.
-/
import Derived.Test.YtnaekdfpdlkkcaaStE
namespace Go.Proofs.Ytnaekdfpdlkkcaa
open Go.RowKit Go.Deep Go.Shelf
set_option linter.unusedVariables false
set_option linter.unusedSimpArgs false
set_option maxHeartbeats 4000000
set_option maxRecDepth 100000
attribute [local go_sem ↓] Go.wp_at_zero Go.wp_at_succ
/-- a stop order stands first in a block. -/
def Ls (w : World) (g : Nat) (x : Sp) : Prop := ∃ cur : Array Value, w.heap[g]? = some (.cells cur 27 (0, 0)) ∧ 8 ≤ cur.size ∧ ∀ j, j < 8 → cur[j]? = (#[.int .u64 x.nm, .int .u32 x.mb, .int .i64 x.sd, .int .i64 x.ty, .int .i64 x.tr, .int .i64 x.pr, .int .u64 x.qt, .int .u64 x.pk] : Array Value)[j]?
theorem Ls.cells {w : World} {g : Nat} {x : Sp} (h : Ls w g x) : w.cell? ⟨g, 0, none⟩ = some (.int .u64 x.nm) ∧ w.cell? ⟨g, 1, none⟩ = some (.int .u32 x.mb) ∧ w.cell? ⟨g, 2, none⟩ = some (.int .i64 x.sd) ∧ w.cell? ⟨g, 3, none⟩ = some (.int .i64 x.ty) ∧ w.cell? ⟨g, 4, none⟩ = some (.int .i64 x.tr) ∧ w.cell? ⟨g, 5, none⟩ = some (.int .i64 x.pr) ∧ w.cell? ⟨g, 6, none⟩ = some (.int .u64 x.qt) ∧ w.cell? ⟨g, 7, none⟩ = some (.int .u64 x.pk) := by
  obtain ⟨cur, h1, h0, h2⟩ := h
  have k : ∀ j, j < 8 → w.cell? ⟨g, j, none⟩ = (#[.int .u64 x.nm, .int .u32 x.mb, .int .i64 x.sd, .int .i64 x.ty, .int .i64 x.tr, .int .i64 x.pr, .int .u64 x.qt, .int .u64 x.pk] : Array Value)[j]? := fun j hj => by rw [row_cell h1]; exact h2 j hj
  exact ⟨k 0 (by omega), k 1 (by omega), k 2 (by omega), k 3 (by omega), k 4 (by omega), k 5 (by omega), k 6 (by omega), k 7 (by omega)⟩
theorem Ls.kept {w w' : World} {g : Nat} {x : Sp} (h : Ls w g x) (hs : w'.heap[g]? = w.heap[g]?) : Ls w' g x := by
  obtain ⟨cur, h1, h2⟩ := h
  exact ⟨cur, hs.trans h1, h2⟩
theorem Ls.lt {w : World} {g : Nat} {x : Sp} (h : Ls w g x) : g < w.heap.size := by
  obtain ⟨cur, h1, _⟩ := h
  exact row_lt h1
theorem Ls.on {w w' : World} {g : Nat} {x : Sp} (h : Ls w g x) (hb : Below w.heap.size w w') : Ls w' g x := h.kept (hb.block g h.lt)
theorem Ls.ne {w : World} {g k : Nat} {x : Sp} {t : TypeId} {cs : Array Value} (h : Ls w g x) (hk : w.heap[k]? = some (.cells cs t (0, 0))) (ht : (27 : TypeId) ≠ t) : g ≠ k := by
  obtain ⟨cur, h1, _⟩ := h
  exact row_ne h1 hk ht
theorem ls_of {w : World} {g cap : Nat} {cur : Array Value} {x : Sp} (h : w.heap[g]? = some (.cells cur 27 (0, 0))) (h1 : 1 ≤ cap) (h2 : cur.size = cap * 8) (h3 : cur.toList.take 8 = (#[.int .u64 x.nm, .int .u32 x.mb, .int .i64 x.sd, .int .i64 x.ty, .int .i64 x.tr, .int .i64 x.pr, .int .u64 x.qt, .int .u64 x.pk] : Array Value).toList) : Ls w g x := by
  refine ⟨cur, h, by omega, fun j hj => ?_⟩
  have := congrArg (fun z => z[j]?) h3
  simpa [List.getElem?_take, hj] using this
/-- the same, and how long its block is. -/
def Lz (w : World) (g gc : Nat) (x : Sp) : Prop := ∃ cur : Array Value, w.heap[g]? = some (.cells cur 27 (0, 0)) ∧ 1 ≤ gc ∧ gc ≤ maxLen ∧ cur.size = gc * 8 ∧ cur.toList.take 8 = (#[.int .u64 x.nm, .int .u32 x.mb, .int .i64 x.sd, .int .i64 x.ty, .int .i64 x.tr, .int .i64 x.pr, .int .u64 x.qt, .int .u64 x.pk] : Array Value).toList
theorem Lz.ls {w : World} {g gc : Nat} {x : Sp} (h : Lz w g gc x) : Ls w g x := by
  obtain ⟨cur, h1, h2, _, h3, h4⟩ := h
  exact ls_of h1 h2 h3 h4
theorem Lz.kept {w w' : World} {g gc : Nat} {x : Sp} (h : Lz w g gc x) (hs : w'.heap[g]? = w.heap[g]?) : Lz w' g gc x := by
  obtain ⟨cur, h1, h2⟩ := h
  exact ⟨cur, hs.trans h1, h2⟩
theorem Lz.on {w w' : World} {g gc : Nat} {x : Sp} (h : Lz w g gc x) (hb : Below w.heap.size w w') : Lz w' g gc x := h.kept (hb.block g h.ls.lt)
theorem Lz.own {w : World} {g gc : Nat} {x : Sp} (h : Lz w g gc x) : w.ownsRow 0 27 8 (.slice (some ⟨g, 0, none⟩) 1 gc) 1 (#[.int .u64 x.nm, .int .u32 x.mb, .int .i64 x.sd, .int .i64 x.ty, .int .i64 x.tr, .int .i64 x.pr, .int .u64 x.qt, .int .u64 x.pk] : Array Value).toList := by
  obtain ⟨cur, h1, h2, h3, h4, h5⟩ := h
  exact ⟨rfl, .inr ⟨g, gc, cur, rfl, Nat.zero_le _, h1, h2, h3, h4, h5⟩⟩
theorem row6 {w : World} {g : Nat} {t : TypeId} {a0 a1 a2 a3 a4 a5 : Value} (h : w.heap[g]? = some (.cells #[a0, a1, a2, a3, a4, a5] t (0, 0))) : w.cell? ⟨g, 0, none⟩ = some a0 ∧ w.cell? ⟨g, 1, none⟩ = some a1 ∧ w.cell? ⟨g, 2, none⟩ = some a2 ∧ w.cell? ⟨g, 3, none⟩ = some a3 ∧ w.cell? ⟨g, 4, none⟩ = some a4 ∧ w.cell? ⟨g, 5, none⟩ = some a5 :=
  ⟨row_cell h 0, row_cell h 1, row_cell h 2, row_cell h 3, row_cell h 4, row_cell h 5⟩
theorem metIn_any (p : Option Addr) (n c : Nat) (high seq : Int) (w : World) : Calls Try.prog 29 #[.agg #[.int .i64 1, .slice p n c, .int .u64 high, .int .u64 seq, .int .i64 0, .bool false]] w fun e w' => e = .returned (.func (.func 31) #[] #[.pointer (some ⟨w.heap.size, 0, none⟩)]) ∧ w' = w.alloc (.cells #[.int .i64 1, .slice p n c, .int .u64 high, .int .u64 seq, .int .i64 0, .bool false] 52) := by
  go_enter Try.func29, Try.ntmps29
  go_wp2
  go_ret
  exact ⟨rfl, rfl⟩
theorem metInW (p : Option Addr) (n c : Nat) (high seq : Int) (w : World) : Calls Try.prog 29 #[.agg #[.int .i64 1, .slice p n c, .int .u64 high, .int .u64 seq, .int .i64 0, .bool false]] w fun e w' => ∃ X, e = .returned (.func (.func 31) #[] #[.pointer (some ⟨X, 0, none⟩)]) ∧ Hid (Below w.heap.size w w') ∧ Hid (w'.heap[X]? = some (.cells #[.int .i64 1, .slice p n c, .int .u64 high, .int .u64 seq, .int .i64 0, .bool false] 52 (0, 0))) := by
  refine (metIn_any p n c high seq w).mono ?_
  rintro e w' ⟨rfl, rfl⟩
  exact ⟨_, rfl, hid (ball _ _), hid (World.alloc_heap_new _ _)⟩
theorem met1_any (p : Option Addr) (n c : Nat) (high seq : Int) (X : Nat) (x : Sp) (w : World) (hX : w.heap[X]? = some (.cells #[.int .i64 1, .slice p n c, .int .u64 high, .int .u64 seq, .int .i64 0, .bool false] 52 (0, 0))) : Calls Try.prog 31 #[.agg #[.int .u64 x.nm, .int .u32 x.mb, .int .i64 x.sd, .int .i64 x.ty, .int .i64 x.tr, .int .i64 x.pr, .int .u64 x.qt, .int .u64 x.pk], .pointer (some ⟨X, 0, none⟩)] w fun e w' => e = .returned (.bool false) ∧ Below w.heap.size w w' := by
  have sX : X < w.heap.size := row_lt hX
  have nX : X ≠ w.heap.size := by omega
  obtain ⟨k0, k1, k2, k3, k4, k5⟩ := row6 hX
  go_enter Try.func31, Try.ntmps31
  go_wp2
  go_ret
  exact ⟨rfl, ball _ _⟩
theorem wd1_any (X : Nat) (num : Int) (x : Sp) (w : World) (hX : w.heap[X]? = some (.cells #[.int .u64 num] 24 (0, 0))) (v : Bool) (hv : (x.nm == num) = v) : Calls Try.prog 18 #[.agg #[.int .u64 x.nm, .int .u32 x.mb, .int .i64 x.sd, .int .i64 x.ty, .int .i64 x.tr, .int .i64 x.pr, .int .u64 x.qt, .int .u64 x.pk], .pointer (some ⟨X, 0, none⟩)] w fun e w' => e = .returned (.bool v) ∧ Below w.heap.size w w' := by
  have sX : X < w.heap.size := row_lt hX
  have nX : X ≠ w.heap.size := by omega
  have k0 := row_cell hX 0
  simp only [List.getElem?_toArray, List.getElem?_cons_zero] at k0
  go_enter Try.func18, Try.ntmps18
  go_wp2
  go_ret
  exact ⟨rfl, ball _ _⟩
theorem idx_met (p : Option Addr) (n c2 : Nat) (high seq : Int) (X : Nat) (G c : Nat) (x : Sp) (w : World) (hL : Ls w G x) (hX : w.heap[X]? = some (.cells #[.int .i64 1, .slice p n c2, .int .u64 high, .int .u64 seq, .int .i64 0, .bool false] 52 (0, 0))) :
    Calls Try.prog 17 #[.slice (some ⟨G, 0, none⟩) 1 c, .func (.func 31) #[] #[.pointer (some ⟨X, 0, none⟩)]] w fun e w' => e = .returned (.int .i64 (-1)) ∧ Below w.heap.size w w' := by
  have CF := hid (fun (U : World) (hU : Below w.heap.size w U) => met1_any p n c2 high seq X x U (row_on hX hU))
  have HL := hid hL
  clear hL hX
  go_enter Try.func17, Try.ntmps17
  go_wp2
  go_loopw [8] (fun iv wr => (iv = .int .i64 0 ∨ iv = .int .i64 1) ∧ Hid (Below w.heap.size w wr)) (fun iv _ => 1 - (intOf iv).toNat)
  case atStart => exact ⟨.inl rfl, hid (Below.refl _ _)⟩
  case round =>
    obtain ⟨rfl | rfl, HB⟩ := hrel
    · obtain ⟨a0, a1, a2, a3, a4, a5, a6, a7⟩ := (HL.out.on HB.out).cells
      go_wp2_with (go_at_call 31; with_reducible refine (CF.out _ HB.out).mono ?_; rintro e w1 ⟨rfl, hb1⟩; have HB1 := hid hb1; clear hb1)
      go_roundw
      case rel => exact ⟨.inr (by go_num), hid (btr HB.out HB1.out)⟩
      case measure => simp [intOf]
    · go_wp2
      go_ret
      exact ⟨rfl, HB.out⟩
theorem idx_wd (X : Nat) (num : Int) (G c : Nat) (x : Sp) (w : World) (hL : Ls w G x) (hX : w.heap[X]? = some (.cells #[.int .u64 num] 24 (0, 0))) (hn : (x.nm == num) = true) :
    Calls Try.prog 17 #[.slice (some ⟨G, 0, none⟩) 1 c, .func (.func 18) #[] #[.pointer (some ⟨X, 0, none⟩)]] w fun e w' => e = .returned (.int .i64 0) ∧ Below w.heap.size w w' := by
  have CF := hid (fun (U : World) (hU : Below w.heap.size w U) => wd1_any X num x U (row_on hX hU) true hn)
  have HL := hid hL
  clear hL hX hn
  go_enter Try.func17, Try.ntmps17
  go_wp2
  go_loopw [8] (fun iv wr => iv = .int .i64 0 ∧ Hid (Below w.heap.size w wr)) (fun iv _ => 1 - (intOf iv).toNat)
  case atStart => exact ⟨rfl, hid (Below.refl _ _)⟩
  case round =>
    obtain ⟨rfl, HB⟩ := hrel
    · obtain ⟨a0, a1, a2, a3, a4, a5, a6, a7⟩ := (HL.out.on HB.out).cells
      go_wp2_with (go_at_call 18; with_reducible refine (CF.out _ HB.out).mono ?_; rintro e w1 ⟨rfl, hb1⟩; have HB1 := hid hb1; clear hb1)
      go_ret
      exact ⟨rfl, btr HB.out HB1.out⟩
theorem idx_none (fn : Value) (q : Option Addr) (c : Nat) (w : World) :
    Calls Try.prog 17 #[.slice q 0 c, fn] w fun e w' => e = .returned (.int .i64 (-1)) ∧ Below w.heap.size w w' := by
  go_enter Try.func17, Try.ntmps17
  go_wp2
  go_loopw [8] (fun iv wr => iv = .int .i64 0 ∧ Hid (Below w.heap.size w wr)) (fun iv _ => 1 - (intOf iv).toNat)
  case atStart => exact ⟨rfl, hid (Below.refl _ _)⟩
  case round =>
    obtain ⟨rfl, HB⟩ := hrel
    go_wp2
    go_ret
    exact ⟨rfl, HB.out⟩
theorem firstMet_any (K : Nat) (fv : Value) (G c : Nat) (high seq : Int) (x : Sp) (w : World) (hK : w.heap[K]? = some (.cells #[fv, .int .i64 1, .slice (some ⟨G, 0, none⟩) 1 c, .int .u64 high, .int .u64 seq, .int .i64 0, .bool false] 54 (0, 0))) (hL : Ls w G x) :
    Calls Try.prog 22 #[.pointer (some ⟨K, 0, none⟩)] w fun e w' => e = .returned (.int .i64 (-1)) ∧ Below w.heap.size w w' := by
  have HK := hid hK
  have HL := hid hL
  clear hK hL
  go_enter Try.func22, Try.ntmps22
  go_upto_region 1 with fail
  obtain ⟨Y0, hY0⟩ : ∃ X, w.drew = X := ⟨_, rfl⟩
  have HE0 := hid (show Below w.heap.size w Y0 from by rw [← hY0]; exact bdrew1 _)
  have HK0 := hid (row_on HK.out HE0.out)
  have HL0 := hid (HL.out.on HE0.out)
  refine wp_region_held_drew (S := (fun U => U.cell? ⟨K, 0, none⟩ = some (fv) ∧ U.cell? ⟨K, 1, none⟩ = some (.int .i64 1) ∧ U.cell? ⟨K, 2, none⟩ = some (.slice (some ⟨G, 0, none⟩) 1 c) ∧ U.cell? ⟨K, 3, none⟩ = some (.int .u64 high) ∧ U.cell? ⟨K, 4, none⟩ = some (.int .u64 seq) ∧ U.cell? ⟨K, 5, none⟩ = some (.int .i64 0) ∧ U.cell? ⟨K, 6, none⟩ = some (.bool false))) (by kernel_rfl) ?_ (fun hHeld => ?_)
  · (try dsimp only); ((rw [hY0]; exact row7 HK0.out))
  rw [hY0] at hHeld ⊢
  clear hY0
  refine' wpAnyH_take (i := 0) (oi := _) (v := _) rfl (by kernel_rfl) (by kernel_rfl) (by kernel_rfl) (fun _ _ _ h => h) (Or.inl ⟨by kernel_rfl, ?_⟩) (by assumption) ?_
  rotate_left
  · (intro w hSw; (try dsimp only at hSw); go_simp; try (with_reducible rfl))
  try simp only [List.getElem_toArray, List.getElem_cons_succ, List.getElem_cons_zero, Act.put, List.setIfInBounds_toArray, List.set_cons_zero, List.set_cons_succ]
  refine' wpAnyH_take (i := 1) (oi := _) (v := _) rfl (by kernel_rfl) (by kernel_rfl) (by kernel_rfl) (fun _ _ _ h => h) (Or.inl ⟨by kernel_rfl, ?_⟩) (by assumption) ?_
  rotate_left
  · (intro w hSw; (try dsimp only at hSw); go_simp; try (with_reducible rfl))
  try simp only [List.getElem_toArray, List.getElem_cons_succ, List.getElem_cons_zero, Act.put, List.setIfInBounds_toArray, List.set_cons_zero, List.set_cons_succ]
  refine' wpAnyH_take (i := 2) (oi := _) (v := _) rfl (by kernel_rfl) (by kernel_rfl) (by kernel_rfl) (fun _ _ _ h => h) (Or.inl ⟨by kernel_rfl, ?_⟩) (by assumption) ?_
  rotate_left
  · (intro w hSw; (try dsimp only at hSw); go_simp; try (with_reducible rfl))
  try simp only [List.getElem_toArray, List.getElem_cons_succ, List.getElem_cons_zero, Act.put, List.setIfInBounds_toArray, List.set_cons_zero, List.set_cons_succ]
  refine' wpAnyH_take (i := 3) (oi := _) (v := _) rfl (by kernel_rfl) (by kernel_rfl) (by kernel_rfl) (fun _ _ _ h => h) (Or.inl ⟨by kernel_rfl, ?_⟩) (by assumption) ?_
  rotate_left
  · (intro w hSw; (try dsimp only at hSw); go_simp; try (with_reducible rfl))
  try simp only [List.getElem_toArray, List.getElem_cons_succ, List.getElem_cons_zero, Act.put, List.setIfInBounds_toArray, List.set_cons_zero, List.set_cons_succ]
  refine' wpAnyH_take (i := 4) (oi := _) (v := _) rfl (by kernel_rfl) (by kernel_rfl) (by kernel_rfl) (fun _ _ _ h => h) (Or.inl ⟨by kernel_rfl, ?_⟩) (by assumption) ?_
  rotate_left
  · (intro w hSw; (try dsimp only at hSw); go_simp; try (with_reducible rfl))
  try simp only [List.getElem_toArray, List.getElem_cons_succ, List.getElem_cons_zero, Act.put, List.setIfInBounds_toArray, List.set_cons_zero, List.set_cons_succ]
  refine' wpAnyH_take (i := 5) (oi := _) (v := _) rfl (by kernel_rfl) (by kernel_rfl) (by kernel_rfl) (fun _ _ _ h => h) (Or.inl ⟨by kernel_rfl, ?_⟩) (by assumption) ?_
  rotate_left
  · (intro w hSw; (try dsimp only at hSw); go_simp; try (with_reducible rfl))
  try simp only [List.getElem_toArray, List.getElem_cons_succ, List.getElem_cons_zero, Act.put, List.setIfInBounds_toArray, List.set_cons_zero, List.set_cons_succ]
  refine' wpAnyH_take (i := 6) (oi := _) (v := _) rfl (by kernel_rfl) (by kernel_rfl) (by kernel_rfl) (fun _ _ _ h => h) (Or.inl ⟨by kernel_rfl, ?_⟩) (by assumption) ?_
  rotate_left
  · (intro w hSw; (try dsimp only at hSw); go_simp; try (with_reducible rfl))
  try simp only [List.getElem_toArray, List.getElem_cons_succ, List.getElem_cons_zero, Act.put, List.setIfInBounds_toArray, List.set_cons_zero, List.set_cons_succ]
  refine' wpAnyH_take (i := 7) (oi := _) (v := _) rfl (by kernel_rfl) (by kernel_rfl) (by kernel_rfl) (fun _ _ _ h => h) (Or.inl ⟨by kernel_rfl, ?_⟩) (by assumption) ?_
  rotate_left
  · (intro w hSw; (try dsimp only at hSw); go_simp; try (with_reducible rfl))
  try simp only [List.getElem_toArray, List.getElem_cons_succ, List.getElem_cons_zero, Act.put, List.setIfInBounds_toArray, List.set_cons_zero, List.set_cons_succ]
  refine' wpAnyH_take (i := 8) (oi := _) (v := _) rfl (by kernel_rfl) (by kernel_rfl) (by kernel_rfl) (fun _ _ _ h => h) (Or.inl ⟨by kernel_rfl, ?_⟩) (by assumption) ?_
  rotate_left
  · (intro w hSw; (try dsimp only at hSw); go_simp; try (with_reducible rfl))
  try simp only [List.getElem_toArray, List.getElem_cons_succ, List.getElem_cons_zero, Act.put, List.setIfInBounds_toArray, List.set_cons_zero, List.set_cons_succ]
  refine wpAnyH_ready (rs := [9]) (by kernel_rfl) (by simp) ?_
  refine AllReadyH.cons (o := _) rfl (fun K hK => ?_) AllReadyH.nil
  go_simp
  go_at_call 29; with_reducible refine (metInW (some ⟨G, 0, none⟩) 1 c high seq Y0).mono ?_; rintro e X1 ⟨X, rfl, B1, HX1⟩
  (try go_wp2_with fail)
  refine hK.out _ _ ?_ (fun hHeld => ?_)
  · (try dsimp only); exact row7 (row_on HK0.out B1.out)
  clear hK K
  try simp only [List.getElem_toArray, List.getElem_cons_succ, List.getElem_cons_zero, Act.put, List.setIfInBounds_toArray, List.set_cons_zero, List.set_cons_succ]
  refine wpAnyH_ready (rs := [10]) (by kernel_rfl) (by simp) ?_
  refine AllReadyH.cons (o := _) rfl (fun K hK => ?_) AllReadyH.nil
  go_simp
  go_at_call 17; with_reducible refine (idx_met (some ⟨G, 0, none⟩) 1 c high seq X G c x X1 (HL0.out.on B1.out) HX1.out).mono ?_; rintro e X2 ⟨rfl, hb2⟩
  (try go_wp2_with fail)
  have B2 := hid (btr B1.out hb2)
  clear hb2
  refine hK.out _ _ ?_ (fun hHeld => ?_)
  · (try dsimp only); exact row7 (row_on HK0.out B2.out)
  clear hK K
  try simp only [List.getElem_toArray, List.getElem_cons_succ, List.getElem_cons_zero, Act.put, List.setIfInBounds_toArray, List.set_cons_zero, List.set_cons_succ]
  refine' wpAnyH_take (i := 11) (oi := _) (v := _) rfl (by kernel_rfl) (by kernel_rfl) (by kernel_rfl) (fun _ _ _ h => h) (Or.inl ⟨by kernel_rfl, ?_⟩) (by assumption) ?_
  rotate_left
  · (intro w hSw; (try dsimp only at hSw); go_simp; try (with_reducible rfl))
  try simp only [List.getElem_toArray, List.getElem_cons_succ, List.getElem_cons_zero, Act.put, List.setIfInBounds_toArray, List.set_cons_zero, List.set_cons_succ]
  refine wpAnyH_done (by kernel_rfl) ?_ _
  clear hHeld
  go_wp2
  go_ret
  exact ⟨rfl, btr HE0.out B2.out⟩
theorem letGo_any (K : Nat) (fv : Value) (G c : Nat) (high seq : Int) (x : Sp) (q : Option Addr) (m d : Nat) (w : World) (hK : w.heap[K]? = some (.cells #[fv, .int .i64 1, .slice (some ⟨G, 0, none⟩) 1 c, .int .u64 high, .int .u64 seq, .int .i64 0, .bool false] 54 (0, 0))) (hL : Ls w G x) :
    Calls Try.prog 14 #[.pointer (some ⟨K, 0, none⟩), .slice q m d] w fun e w' => e = .returned (.slice q m d) ∧ Below w.heap.size w w' := by
  have C := hid (firstMet_any K fv G c high seq x w hK hL)
  clear hK hL
  go_enter Try.func14, Try.ntmps14
  go_wp2_with (go_at_call 22; with_reducible refine (C.out).mono ?_; rintro e w1 ⟨rfl, hb1⟩; have HB1 := hid hb1; clear hb1)
  go_ret
  exact ⟨rfl, HB1.out⟩
end Go.Proofs.Ytnaekdfpdlkkcaa
