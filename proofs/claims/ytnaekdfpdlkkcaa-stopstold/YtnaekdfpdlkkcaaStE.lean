/-
  A Book tells one event.
-/
import Derived.Test.YtnaekdfpdlkkcaaStD
import Derived.Laws.AppendOwnNone
namespace Go.Proofs.Ytnaekdfpdlkkcaa
open Go.RowKit Go.Deep Go.Shelf
set_option linter.unusedVariables false
set_option linter.unusedSimpArgs false
set_option maxHeartbeats 4000000
set_option maxRecDepth 100000
structure Ev where
  sq : Int
  kd : Int
  id : Int
  ot : Int
  tg : Int
  mb : Int
  sd : Int
  ty : Int
  pr : Int
  qt : Int
  pk : Int
  rs : Int
  cd : Int
def ecs (e : Ev) : Array Value := #[.int .u64 e.sq, .int .i64 e.kd, .int .u64 e.id, .int .u64 e.ot, .int .u64 e.tg, .int .u32 e.mb, .int .i64 e.sd, .int .i64 e.ty, .int .i64 e.pr, .int .u64 e.qt, .int .u64 e.pk, .int .i64 e.rs, .int .i64 e.cd]
def nx (s : Int) : Int := IntKind.u64.wrap (s + 1)
/-- an event stands first in a block. -/
def Es (w : World) (g : Nat) (e : Ev) : Prop := ∃ cur : Array Value, w.heap[g]? = some (.cells cur 38 (0, 0)) ∧ 13 ≤ cur.size ∧ ∀ j, j < 13 → cur[j]? = (ecs e)[j]?
theorem Es.cells {w : World} {g : Nat} {e : Ev} (h : Es w g e) : w.cell? ⟨g, 0, none⟩ = some (.int .u64 e.sq) ∧ w.cell? ⟨g, 1, none⟩ = some (.int .i64 e.kd) ∧ w.cell? ⟨g, 2, none⟩ = some (.int .u64 e.id) ∧ w.cell? ⟨g, 3, none⟩ = some (.int .u64 e.ot) ∧ w.cell? ⟨g, 4, none⟩ = some (.int .u64 e.tg) ∧ w.cell? ⟨g, 5, none⟩ = some (.int .u32 e.mb) ∧ w.cell? ⟨g, 6, none⟩ = some (.int .i64 e.sd) ∧ w.cell? ⟨g, 7, none⟩ = some (.int .i64 e.ty) ∧ w.cell? ⟨g, 8, none⟩ = some (.int .i64 e.pr) ∧ w.cell? ⟨g, 9, none⟩ = some (.int .u64 e.qt) ∧ w.cell? ⟨g, 10, none⟩ = some (.int .u64 e.pk) ∧ w.cell? ⟨g, 11, none⟩ = some (.int .i64 e.rs) ∧ w.cell? ⟨g, 12, none⟩ = some (.int .i64 e.cd) := by
  obtain ⟨cur, h1, h0, h2⟩ := h
  have k : ∀ j, j < 13 → w.cell? ⟨g, j, none⟩ = (ecs e)[j]? := fun j hj => by rw [row_cell h1]; exact h2 j hj
  exact ⟨k 0 (by omega), k 1 (by omega), k 2 (by omega), k 3 (by omega), k 4 (by omega), k 5 (by omega), k 6 (by omega), k 7 (by omega), k 8 (by omega), k 9 (by omega), k 10 (by omega), k 11 (by omega), k 12 (by omega)⟩
theorem Es.kept {w w' : World} {g : Nat} {e : Ev} (h : Es w g e) (hs : w'.heap[g]? = w.heap[g]?) : Es w' g e := by
  obtain ⟨cur, h1, h2⟩ := h
  exact ⟨cur, hs.trans h1, h2⟩
theorem Es.lt {w : World} {g : Nat} {e : Ev} (h : Es w g e) : g < w.heap.size := by
  obtain ⟨cur, h1, _⟩ := h
  exact row_lt h1
theorem Es.on {w w' : World} {g : Nat} {e : Ev} (h : Es w g e) (hb : Below w.heap.size w w') : Es w' g e := h.kept (hb.block g h.lt)
theorem Es.frz {w : World} {g : Nat} {e : Ev} (h : Es w g e) (j : Nat) : w.frozen? ⟨g, j, none⟩ = false := by
  obtain ⟨cur, h1, _⟩ := h
  exact row_frz h1 j
theorem Es.ne {w : World} {g k : Nat} {e : Ev} {t : TypeId} {cs : Array Value} (h : Es w g e) (hk : w.heap[k]? = some (.cells cs t (0, 0))) (ht : (38 : TypeId) ≠ t) : g ≠ k := by
  obtain ⟨cur, h1, _⟩ := h
  exact row_ne h1 hk ht
theorem set_row {w : World} {B k : Nat} {row : Array Value} {t : TypeId} (v : Value) (h : w.heap[B]? = some (.cells row t (0, 0))) : (w.setCell ⟨B, k, none⟩ v).heap[B]? = some (.cells (row.setIfInBounds k v) t (0, 0)) := heap_setCell_same w B k row t v h
theorem Es.set {w : World} {g k : Nat} {e e2 : Ev} {v : Value} (h : Es w g e) (he : ecs e2 = (ecs e).setIfInBounds k v) : Es (w.setCell ⟨g, k, none⟩ v) g e2 := by
  obtain ⟨cur, h1, h0, h2⟩ := h
  refine ⟨cur.setIfInBounds k v, set_row v h1, by simpa using h0, fun j hj => ?_⟩
  rw [he, Array.getElem?_setIfInBounds, Array.getElem?_setIfInBounds, h2 j hj]
  by_cases hk : k = j
  · subst hk
    have h3 : k < (ecs e).size := by show k < 13; exact hj
    rw [if_pos rfl, if_pos (by omega), if_pos rfl, if_pos h3]
  · rw [if_neg hk, if_neg hk]
theorem info38all : (Try.prog.info? 38).map (fun i => (i.zero, i.size, i.bytes)) = some (some (.agg #[.int .u64 0, .int .i64 0, .int .u64 0, .int .u64 0, .int .u64 0, .int .u32 0, .int .i64 0, .int .i64 0, .int .i64 0, .int .u64 0, .int .u64 0, .int .i64 0, .int .i64 0]), 13, 104) := by kernel_rfl
theorem info27all : (Try.prog.info? 27).map (fun i => (i.zero, i.size, i.bytes)) = some (some (.agg #[.int .u64 0, .int .u32 0, .int .i64 0, .int .i64 0, .int .i64 0, .int .i64 0, .int .u64 0, .int .u64 0]), 8, 64) := by kernel_rfl
theorem info_parts {P : Program} {t : TypeId} {z : Value} {s b : Nat} (h : (P.info? t).map (fun i => (i.zero, i.size, i.bytes)) = some (some z, s, b)) : ∃ i, P.info? t = some i ∧ i.zero = some z ∧ i.size = s ∧ i.bytes = b := by
  cases hi : P.info? t with
  | none => rw [hi] at h; cases h
  | some i =>
    rw [hi] at h
    simp only [Option.map_some, Option.some.injEq, Prod.mk.injEq] at h
    exact ⟨i, rfl, h.1, h.2.1, h.2.2⟩
theorem one_row {w : World} {base : Nat} {t : TypeId} {size : Nat} {v : Value} {xs : List Value} (h : w.ownsRow base t size v (0 + 1) ([] ++ xs)) : ∃ g cap cur, v = .slice (some ⟨g, 0, none⟩) 1 cap ∧ base ≤ g ∧ w.heap[g]? = some (.cells cur t (0, 0)) ∧ 1 ≤ cap ∧ cap ≤ maxLen ∧ cur.size = cap * size ∧ cur.toList.take size = xs := by
  obtain ⟨_, ⟨_, h2⟩ | ⟨g, cap, cur, h1, h2, h3, h4, h5, h6, h7⟩⟩ := h
  · omega
  · refine ⟨g, cap, cur, h1, h2, h3, h4, h5, h6, ?_⟩
    simpa using h7
theorem es_of {w : World} {g cap : Nat} {cur : Array Value} {e : Ev} (h : w.heap[g]? = some (.cells cur 38 (0, 0))) (h1 : 1 ≤ cap) (h2 : cur.size = cap * 13) (h3 : cur.toList.take 13 = (ecs e).toList) : Es w g e := by
  refine ⟨cur, h, by omega, fun j hj => ?_⟩
  have := congrArg (fun z => z[j]?) h3
  simpa [List.getElem?_take, hj] using this
theorem ecs_one (e : Ev) : ∀ u ∈ (ecs e).toList, u.oneCell' = true := by
  intro u hu
  simp only [ecs, List.mem_cons, List.not_mem_nil, or_false] at hu
  rcases hu with rfl | rfl | rfl | rfl | rfl | rfl | rfl | rfl | rfl | rfl | rfl | rfl | rfl <;> rfl
theorem tell_any (K : Nat) (fv : Value) (p : Option Addr) (n c : Nat) (high seq : Int) (E : Nat) (e : Ev) (w : World) (hK : w.heap[K]? = some (.cells #[fv, .int .i64 1, .slice p n c, .int .u64 high, .int .u64 seq, .int .i64 0, .bool false] 54 (0, 0))) (hE : w.heap[E]? = some (.cells (ecs e) 38 (0, 0))) :
    Calls Try.prog 13 #[.pointer (some ⟨K, 0, none⟩), .slice none 0 0, .slice (some ⟨E, 0, none⟩) 1 1] w fun r w' => ∃ g cap, r = .returned (.slice (some ⟨g, 0, none⟩) 1 cap) ∧ w.heap.size ≤ g ∧ Es w' g { e with sq := nx seq } ∧ w'.heap[K]? = some (.cells #[fv, .int .i64 1, .slice p n c, .int .u64 high, .int .u64 (nx seq), .int .i64 0, .bool false] 54 (0, 0)) ∧ Kp (fun j => j = K) w w' := by
  obtain ⟨i0, hi, hz0, hz1, hz2⟩ := info_parts info38all
  have HI := hid hi
  have HZ0 := hid hz0
  have HZ1 := hid hz1
  have HZ2 := hid hz2
  have HSRC := hid (show ∀ j u, (ecs e).toList[j]? = some u → w.cell? ((⟨E, 0, none⟩ : Addr).add j) = some u from fun j u hj => by
    rw [Addr.add_lit, Nat.zero_add, row_cell hE]
    simpa using hj)
  have HKR := hid hK
  obtain ⟨s, hs⟩ : ∃ s, nx seq = s := ⟨_, rfl⟩
  have hs' : IntKind.u64.wrap (seq + 1) = s := hs
  rw [hs]
  clear hi hz0 hz1 hz2 hK hE hs
  go_enter Try.func13, Try.ntmps13
  go_upto_region 3 with (at_builtin; refine wpList_append_own _ (by rfl) (.tmp 11) (.tmp 12) 35 (by rfl) w.heap.size 38 i0 _ 13 104 Try.underlying35 HI.out HZ0.out HZ1.out HZ2.out rfl (by decide) _ 0 [] (by rfl) ⟨rfl, .inl ⟨rfl, rfl⟩⟩ ⟨E, 0, none⟩ 1 1 (ecs e).toList (by rfl) (by simp [ecs]) HSRC.out (ecs_one e) (by unfold maxLen; omega) (by omega) (Nat.le_refl _) ?_; intro v1 w1 hown hgrow _; obtain ⟨g, cap, cur, hv, hg, hr, hc1, hcm, hcs, hct⟩ := one_row hown; subst hv; have HES := hid (es_of hr hc1 hcs hct); have HBW := hid (show Below w.heap.size w w1 from (Below.refl _ _).grown hgrow (Nat.le_refl _) (fun j hj => by cases hj)); clear hown hgrow hr hcs hct cur)
  have HK1 := hid (row_on HKR.out HBW.out)
  have gK : g ≠ K := HES.out.ne HK1.out (by decide)
  have hm' : cap < 9223372036854775808 := by unfold maxLen at hcm; omega
  have HG := hid hg
  obtain ⟨W2, hW2⟩ : ∃ W2, (w1.setCell ⟨K, 4, none⟩ (.int .u64 s)).setCell ⟨g, 0, none⟩ (.int .u64 s) = W2 := ⟨_, rfl⟩
  have HW2 := hid hW2
  have HE2 := hid (show Es W2 g { e with sq := s } from by
    rw [← hW2]
    exact (HES.out.kept ((Kp.set w1 K 4 _).obj g HES.out.lt gK)).set rfl)
  have HK2 := hid (show W2.heap[K]? = some (.cells #[fv, .int .i64 1, .slice p n c, .int .u64 high, .int .u64 s, .int .i64 0, .bool false] 54 (0, 0)) from by
    rw [← hW2]
    exact (Kp.set _ g 0 _).row (set_row (k := 4) _ HK1.out) (Ne.symm gK))
  have HP2 := hid (show Kp (fun j => j = K) w W2 from by
    have h1 := (Kp.of (fun j => j = K) HBW.out).trans (Kp.set w1 K 4 (.int .u64 s)) (fun _ _ h => h)
    rw [← hW2]
    exact h1.trans (Kp.set _ g 0 _) (fun j hj e => by have := HG.out; omega))
  clear hW2 hg hcm
  go_wp2_with fail
  go_loopw [18] (fun iv wr => (iv = .int .i64 0 ∧ wr = w1) ∨ (iv = .int .i64 1 ∧ wr = W2)) (fun iv _ => 1 - (intOf iv).toNat)
  case atStart => exact .inl ⟨rfl, rfl⟩
  case round =>
    rcases hrel with ⟨rfl, rfl⟩ | ⟨rfl, rfl⟩
    · obtain ⟨k0, k1, k2, k3, k4, k5, k6⟩ := row7 HK1.out
      have fz := row_frz HK1.out 4
      have fg := HES.out.frz 0
      obtain ⟨e0, e1, e2, e3, e4, e5, e6, e7, e8, e9, e10, e11, e12⟩ := HES.out.cells
      go_wp2
      go_roundw
      case rel => exact .inr ⟨by go_num, HW2.out⟩
      case measure => simp [intOf]
    · go_wp2
      go_ret
      exact ⟨g, cap, rfl, HG.out, HE2.out, HK2.out, HP2.out⟩
end Go.Proofs.Ytnaekdfpdlkkcaa
