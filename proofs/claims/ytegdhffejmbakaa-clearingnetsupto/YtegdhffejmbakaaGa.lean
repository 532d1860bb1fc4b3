/-
  BigM
-/
import Derived.Test.YtegdhffejmbakaaNumA
import Derived.WalkLawsBesides
import Derived.Deep.QuietTactic
import Derived.BigQuiet
import Derived.RangeFuncRecord

namespace Go.Proofs.Ytegdhffejmbakaa.BigM
def val : List Int → Int
  | [] => 0
  | d :: r => d + 4294967296 * val r
def Dig (l : List Int) : Prop := ∀ d, d ∈ l → 0 ≤ d ∧ d < 4294967296
/-- digit k, 0 beyond the list. -/
def at0 (l : List Int) (k : Nat) : Int := l[k]?.getD 0
def Trm (l : List Int) : Prop := 0 < l.length → at0 l (l.length - 1) ≠ 0
/-- the powers of the base. -/
def pw (k : Nat) : Int := 4294967296 ^ k
theorem pw_zero : pw 0 = 1 := rfl
theorem pw_succ (k : Nat) : pw (k + 1) = 4294967296 * pw k := by unfold pw; rw [Int.pow_succ, Int.mul_comm]
theorem pw_pos (k : Nat) : 0 < pw k := Int.pow_pos (by decide)
theorem pw_add (a b : Nat) : pw (a + b) = pw a * pw b := by unfold pw; exact Int.pow_add _ _ _
theorem pw_le (a b : Nat) (h : a ≤ b) : pw a ≤ pw b := by
  obtain ⟨c, rfl⟩ := Nat.le.dest h
  rw [pw_add]
  have h1 := pw_pos a
  have h2 := pw_pos c
  have := Int.mul_le_mul_of_nonneg_left (show 1 ≤ pw c by omega) (Int.le_of_lt h1)
  omega
theorem at0_dig (l : List Int) (h : Dig l) (k : Nat) : 0 ≤ at0 l k ∧ at0 l k < 4294967296 := by
  unfold at0
  by_cases hk : k < l.length
  · rw [List.getElem?_eq_getElem hk]; exact h _ (List.getElem_mem hk)
  · rw [List.getElem?_eq_none (by omega)]; exact ⟨by simp, by simp⟩
theorem val_append (a b : List Int) : val (a ++ b) = val a + pw a.length * val b := by
  induction a with
  | nil => simp [val, pw_zero]
  | cons x r ih =>
    simp only [List.cons_append, val, List.length_cons, pw_succ, ih]
    rw [Int.mul_add, Int.mul_assoc]; omega
theorem val_snoc (a : List Int) (x : Int) : val (a ++ [x]) = val a + pw a.length * x := by
  rw [val_append]; simp [val]
theorem val_nonneg (l : List Int) (h : Dig l) : 0 ≤ val l := by
  induction l with
  | nil => simp [val]
  | cons x r ih =>
    have h1 := h x (by simp)
    have h2 := ih (fun d hd => h d (by simp [hd]))
    simp only [val]; omega
theorem val_lt (l : List Int) (h : Dig l) : val l < pw l.length := by
  induction l with
  | nil => simp [val, pw_zero]
  | cons x r ih =>
    have h1 := h x (by simp)
    have h2 := ih (fun d hd => h d (by simp [hd]))
    simp only [val, List.length_cons, pw_succ]; omega
theorem Dig.take {l : List Int} (h : Dig l) (k : Nat) : Dig (l.take k) := fun d hd => h d (List.mem_of_mem_take hd)
theorem Dig.snoc {l : List Int} (h : Dig l) {x : Int} (h0 : 0 ≤ x) (h1 : x < 4294967296) : Dig (l ++ [x]) := by
  intro d hd
  simp only [List.mem_append, List.mem_singleton] at hd
  rcases hd with hd | rfl
  · exact h d hd
  · exact ⟨h0, h1⟩
theorem dig_nil : Dig [] := fun d hd => by simp at hd
theorem val_take_succ (l : List Int) (k : Nat) (hk : k < l.length) : val (l.take (k + 1)) = val (l.take k) + pw k * at0 l k := by
  have e : l.take (k + 1) = l.take k ++ [at0 l k] := by rw [List.take_succ_eq_append_getElem hk]; simp [at0, hk]
  rw [e, val_snoc]
  have : (l.take k).length = k := by simp; omega
  rw [this]
theorem val_take_all (l : List Int) (k : Nat) (hk : l.length ≤ k) : val (l.take k) = val l := by rw [List.take_of_length_le hk]
/-- one more place, in or beyond the list. -/
theorem val_take_step (l : List Int) (k : Nat) : val (l.take (k + 1)) = val (l.take k) + pw k * at0 l k := by
  by_cases hk : k < l.length
  · exact val_take_succ l k hk
  · rw [val_take_all l k (by omega), val_take_all l (k + 1) (by omega)]
    have : at0 l k = 0 := by unfold at0; rw [List.getElem?_eq_none (by omega)]; rfl
    rw [this]; omega
theorem val_ge (l : List Int) (h : Dig l) (ht : Trm l) (hl : 0 < l.length) : pw (l.length - 1) ≤ val l := by
  have h1 := val_take_succ l (l.length - 1) (by omega)
  rw [show l.length - 1 + 1 = l.length from by omega, List.take_length] at h1
  have h2 := val_nonneg _ (h.take (l.length - 1))
  have h3 := ht hl
  have h4 := at0_dig l h (l.length - 1)
  have h5 : pw (l.length - 1) * 1 ≤ pw (l.length - 1) * at0 l (l.length - 1) := Int.mul_le_mul_of_nonneg_left (by omega) (Int.le_of_lt (pw_pos _))
  omega
theorem len_le (l : List Int) (h : Dig l) (ht : Trm l) (k : Nat) (hv : val l < pw k) : l.length ≤ k := by
  by_cases hl : l.length ≤ k
  · exact hl
  · have h1 := val_ge l h ht (by omega)
    have h2 := pw_le k (l.length - 1) (by omega)
    omega
theorem len_pos (l : List Int) (h : Dig l) (ht : Trm l) : 0 < l.length ↔ 0 < val l := by
  constructor
  · intro hl
    have h1 := val_ge l h ht hl
    have := pw_pos (l.length - 1)
    omega
  · intro hv
    cases l with
    | nil => simp [val] at hv
    | cons x r => simp
/-- longer is greater. -/
theorem lt_of_len (a b : List Int) (ha : Dig a) (hb : Dig b) (hbt : Trm b) (h : a.length < b.length) : val a < val b := by
  have h1 := val_lt a ha
  have h2 := val_ge b hb hbt (by omega)
  have h3 := pw_le a.length (b.length - 1) (by omega)
  omega
/-- the first place from above that parts decides. -/
theorem lt_of_place (a b : List Int) (ha : Dig a) (hb : Dig b) (k : Nat) (hs : ∀ j, k < j → at0 a j = at0 b j) (hk : at0 a k < at0 b k) : val a < val b := by
  have key : ∀ n, k < n → val (a.take n) < val (b.take n) := by
    intro n hn
    induction n with
    | zero => omega
    | succ m ih =>
      rw [val_take_step a m, val_take_step b m]
      by_cases hm : m = k
      · subst hm
        have h1 := val_lt _ (ha.take m)
        have h2 := val_nonneg _ (hb.take m)
        have h3 : pw (a.take m).length ≤ pw m := pw_le _ _ (by simp; omega)
        have h4 : pw m * (at0 a m + 1) ≤ pw m * at0 b m := Int.mul_le_mul_of_nonneg_left (by omega) (Int.le_of_lt (pw_pos _))
        rw [Int.mul_add] at h4
        omega
      · rw [hs m (by omega)]
        have := ih (by omega)
        omega
  have h := key (max (k + 1) (max a.length b.length)) (by omega)
  rw [val_take_all a _ (by omega), val_take_all b _ (by omega)] at h
  exact h
theorem eq_of_places (a b : List Int) (hl : a.length = b.length) (hs : ∀ j, at0 a j = at0 b j) : val a = val b := by
  have : a = b := by
    apply List.ext_getElem hl
    intro i h1 h2
    have := hs i
    simpa [at0, h1, h2] using this
  rw [this]
end Go.Proofs.Ytegdhffejmbakaa.BigM
namespace Go.Proofs.Ytegdhffejmbakaa
open Go.RowKit BigM
set_option linter.unusedVariables false
/-- the digits at an address, in a world. -/
def CellsAt (w : World) (b o : Nat) (ds : List Int) : Prop := (∃ cur, w.heap[b]? = some (.cells cur 23 (0, 0))) ∧ ∀ j, j < ds.length → w.cell? ⟨b, o + j, none⟩ = some (.int .u32 (at0 ds j))
/-- a slice reads as these digits. -/
def Rd (w : World) (v : Value) (ds : List Int) : Prop :=
  (v = .slice none 0 0 ∧ ds = []) ∨ ∃ b o cap, v = .slice (some ⟨b, o, none⟩) ds.length cap ∧ ds.length ≤ cap ∧ cap ≤ maxLen ∧ CellsAt w b o ds
/-- a slice is the whole number n. -/
def Bn (w : World) (v : Value) (n : Int) : Prop := ∃ ds, Rd w v ds ∧ Dig ds ∧ Trm ds ∧ val ds = n
theorem alloc_cells (w : World) (cs : Array Value) : ∃ cur, (w.alloc (.cells cs 23)).heap[w.heap.size]? = some (.cells cur 23 (0, 0)) := ⟨cs, World.alloc_heap_new _ _⟩
theorem CellsAt.lt {w : World} {b o : Nat} {ds : List Int} (h : CellsAt w b o ds) : b < w.heap.size := by
  obtain ⟨⟨cur, e⟩, _⟩ := h
  exact (Array.getElem?_eq_some_iff.1 e).1
theorem CellsAt.below {w w' : World} {B b o : Nat} {ds : List Int} (h : CellsAt w b o ds) (hb : Below B w w') (hB : w.heap.size ≤ B) : CellsAt w' b o ds := by
  have hl := h.lt
  obtain ⟨⟨cur, e⟩, h2⟩ := h
  exact ⟨⟨cur, (hb.block b (by omega)).trans e⟩, fun j hj => (hb.cell (p := ⟨b, o + j, none⟩) (by show b < B; omega)).trans (h2 j hj)⟩
theorem Rd.below {w w' : World} {B : Nat} {v : Value} {ds : List Int} (h : Rd w v ds) (hb : Below B w w') (hB : w.heap.size ≤ B) : Rd w' v ds := by
  rcases h with h | ⟨b, o, cap, h1, h2, h3, h4⟩
  · exact .inl h
  · exact .inr ⟨b, o, cap, h1, h2, h3, h4.below hb hB⟩
theorem Bn.below {w w' : World} {B : Nat} {v : Value} {n : Int} (h : Bn w v n) (hb : Below B w w') (hB : w.heap.size ≤ B) : Bn w' v n := by
  obtain ⟨ds, h1, h2⟩ := h
  exact ⟨ds, h1.below hb hB, h2⟩
theorem Bn.to {w w' : World} {v : Value} {n : Int} (h : Bn w v n) (hb : Below w.heap.size w w') : Bn w' v n := h.below hb (Nat.le_refl _)
theorem Bn.nonneg {w : World} {v : Value} {n : Int} (h : Bn w v n) : 0 ≤ n := by
  obtain ⟨ds, h1, h2, h3, rfl⟩ := h
  exact val_nonneg _ h2
/-- a slice's shape, for a walk. -/
theorem Rd.shape {w : World} {v : Value} {ds : List Int} (h : Rd w v ds) : ∃ a cap, v = .slice a ds.length cap ∧ ds.length ≤ maxLen ∧ (0 < ds.length → ∃ b o, a = some ⟨b, o, none⟩ ∧ CellsAt w b o ds) := by
  rcases h with ⟨rfl, rfl⟩ | ⟨b, o, cap, rfl, h2, h3, h4⟩
  · exact ⟨none, 0, rfl, by simp, fun h => by simp at h⟩
  · exact ⟨_, cap, rfl, by omega, fun _ => ⟨b, o, rfl, h4⟩⟩
theorem rd_nil (w : World) : Rd w (.slice none 0 0) [] := .inl ⟨rfl, rfl⟩
set_option maxHeartbeats 400000 in
theorem trimmed_nil (w : World) : Calls Try.prog 30 #[.slice none 0 0] w fun e w' => e = .returned (.slice none 0 0) ∧ w' = w := by
  go_enter Try.func30, Try.ntmps30
  go_wp2
  go_loop [3] (fun n => n = .int .i64 0) (fun _ => 0)
  case atStart => rfl
  case round =>
    subst hrel
    go_wp2
    go_ret
    exact ⟨rfl, rfl⟩
set_option maxHeartbeats 1000000 in
theorem trimmed_row (w : World) (b o cap : Nat) (ds : List Int) (hl : ds.length ≤ cap) (hm : cap ≤ maxLen) (hc : CellsAt w b o ds) :
    Calls Try.prog 30 #[.slice (some ⟨b, o, none⟩) ds.length cap] w fun e w' =>
      (∃ k, k ≤ ds.length ∧ e = .returned (.slice (some ⟨b, o, none⟩) k cap) ∧ val (ds.take k) = val ds ∧ (0 < k → at0 ds (k - 1) ≠ 0)) ∧ w' = w := by
  unfold maxLen at hm
  obtain ⟨hc1, hc2⟩ := hc
  go_enter Try.func30, Try.ntmps30
  go_wp2
  go_loop [3] (fun n => ∃ k : Nat, k ≤ ds.length ∧ n = .int .i64 k ∧ Hid (val (ds.take k) = val ds)) (fun n => (intOf n).toNat)
  case atStart => exact ⟨ds.length, Nat.le_refl _, rfl, by show val (ds.take ds.length) = val ds; rw [List.take_length]⟩
  case round =>
    obtain ⟨k, hk, rfl, HV⟩ := hrel
    by_cases h0 : k = 0
    · subst h0
      go_wp2
      go_ret
      exact ⟨⟨0, Nat.zero_le _, rfl, HV.out, fun h => by omega⟩, rfl⟩
    · obtain ⟨m, rfl⟩ : ∃ m, k = m + 1 := ⟨k - 1, by omega⟩
      have hcell := hc2 m (by omega)
      have hst := val_take_step ds m
      obtain ⟨x, hx⟩ : ∃ x, at0 ds m = x := ⟨_, rfl⟩
      rw [hx] at hcell hst
      have HX : Hid (at0 ds m = x) := hx
      have HS : Hid (val (ds.take (m + 1)) = val (ds.take m) + pw m * x) := hst
      clear hx hst hc2
      have hlt : (0 : Int) < (m : Int) + 1 := by omega
      by_cases hx0 : x = 0
      · subst hx0
        go_wp2
        go_round
        case rel => exact ⟨m, by omega, by go_num, by show val (ds.take m) = val ds; have := HS.out; have := HV.out; omega⟩
        case measure => simp [intOf]
      · have hxb : (x == 0) = false := by simpa using hx0
        go_wp2
        go_ret
        exact ⟨⟨m + 1, by omega, rfl, HV.out, fun _ => by rw [Nat.add_sub_cancel, HX.out]; exact hx0⟩, rfl⟩
theorem trimmed_any (w : World) (v : Value) (ds : List Int) (h : Rd w v ds) (hd : Dig ds) :
    Calls Try.prog 30 #[v] w fun e w' => (∃ u, e = .returned u ∧ Bn w u (val ds)) ∧ w' = w := by
  rcases h with ⟨rfl, rfl⟩ | ⟨b, o, cap, rfl, h2, h3, h4⟩
  · refine (trimmed_nil w).mono ?_
    rintro e w' ⟨rfl, rfl⟩
    exact ⟨⟨_, rfl, [], rd_nil _, dig_nil, fun h => by simp at h, rfl⟩, rfl⟩
  · refine (trimmed_row w b o cap ds h2 h3 h4).mono ?_
    rintro e w' ⟨⟨k, hk, rfl, hv, ht⟩, rfl⟩
    refine ⟨⟨_, rfl, ds.take k, .inr ⟨b, o, cap, ?_, by simp; omega, h3, h4.1, ?_⟩, hd.take k, ?_, hv⟩, rfl⟩
    · have : (ds.take k).length = k := by simp; omega
      rw [this]
    · intro j hj
      have hj' : j < k := by simp at hj; omega
      rw [h4.2 j (by omega)]
      simp [at0, hj']
    · intro hl
      have e : (ds.take k).length = k := by simp; omega
      rw [e] at hl ⊢
      have := ht hl
      simpa [at0, List.getElem?_take, show k - 1 < k by omega] using this
end Go.Proofs.Ytegdhffejmbakaa
namespace Go.Proofs.Ytegdhffejmbakaa
open Go.RowKit BigM
set_option linter.unusedVariables false
theorem info51 : (Try.prog.info? 23).map (fun i => (i.zero, i.size, i.bytes)) = some (some (.int .u32 0), 1, 4) := by kernel_rfl
set_option maxHeartbeats 400000 in
theorem of_any (n : Int) (w : World) (hn : Word n) :
    Calls Try.prog 45 #[.int .u64 n] w fun e w' => (∃ u, e = .returned u ∧ Bn w' u n) ∧ Below w.heap.size w w' := by
  obtain ⟨n0, n1⟩ := hn
  have hd : Dig [n % 4294967296, n / 4294967296] := by
    intro d hd; simp at hd; rcases hd with rfl | rfl <;> omega
  have hv : val [n % 4294967296, n / 4294967296] = n := by simp [val]; omega
  have c1 := fun (w : World) (v : Value) h => trimmed_any w v [n % 4294967296, n / 4294967296] h hd
  rw [hv] at c1
  have C1 := hid c1
  clear c1 hd hv
  go_enter Try.func45, Try.ntmps45
  go_wp2_with fail
  refine (C1.out _ _ ?_).mono ?_
  · refine .inr ⟨w.heap.size, 0, 2, rfl, by simp, by simp [maxLen], alloc_cells _ _, ?_⟩
    intro j hj
    have hj' : j < 2 := hj
    have : j = 0 ∨ j = 1 := by omega
    rcases this with rfl | rfl <;> simp [go_sem, at0]
  · rintro e w1 ⟨⟨u, rfl, hu⟩, rfl⟩
    go_wp2
    go_ret
    exact ⟨⟨u, rfl, hu⟩, (Below.refl _ _).alloc (Nat.le_refl _) _⟩
end Go.Proofs.Ytegdhffejmbakaa
namespace Go.Proofs.Ytegdhffejmbakaa
open Go.RowKit BigM
set_option linter.unusedVariables false
theorem rd_of_owns {w : World} {base k : Nat} {v : Value} {rs : List Int} (h : w.ownsRow base 23 1 v k (rs.map (Value.int .u32))) (hl : rs.length = k) : Rd w v rs := by
  rcases h.2 with ⟨rfl, h0⟩ | ⟨g, cap, cur, rfl, hb, hg, h1, h2, h3, h4⟩
  · left; refine ⟨rfl, ?_⟩
    cases rs with
    | nil => rfl
    | cons x r => simp at hl; omega
  · right
    refine ⟨g, 0, cap, by rw [hl], by omega, h2, ⟨cur, hg⟩, ?_⟩
    intro j hj
    have := h.cells (g := g) rfl j (.int .u32 (at0 rs j)) (by simp [at0, hj])
    have hadd : (⟨g, 0, none⟩ : Addr).add j = ⟨g, 0 + j, none⟩ := by unfold Addr.add; split <;> simp_all
    rw [hadd] at this
    exact this
/-- what has been gathered of a sum, k places on. -/
def PlusR (w : World) (xs ys : List Int) (v : Value) (c : Int) (k : Nat) (wr : World) : Prop :=
  ∃ rs : List Int, wr.ownsRow w.heap.size 23 1 v k (rs.map (Value.int .u32)) ∧ rs.length = k ∧ Dig rs ∧ val rs + pw k * c = val (xs.take k) + val (ys.take k) ∧ Below w.heap.size w wr
theorem plusR_start (w : World) (xs ys : List Int) : PlusR w xs ys (.slice (some ⟨w.heap.size, 0, none⟩) 0 0) 0 0 (w.alloc (.cells #[] 23)) :=
  ⟨[], World.ownsRow_made w #[] 0 (Nat.le_refl _) (Nat.zero_le _) rfl, rfl, dig_nil, by simp [val], (Below.refl _ _).alloc (Nat.le_refl _) _⟩
theorem plusR_step {w wr w1 : World} {xs ys rs : List Int} {v v' : Value} {c x y s : Int} {k : Nat} {o : Obj}
    (h1 : wr.ownsRow w.heap.size 23 1 v k (rs.map (Value.int .u32))) (h2 : rs.length = k) (h3 : Dig rs) (h4 : val rs + pw k * c = val (xs.take k) + val (ys.take k)) (h5 : Below w.heap.size w wr)
    (hx : at0 xs k = x) (hy : at0 ys k = y) (hs : s = c + x + y)
    (hown : w1.ownsRow w.heap.size 23 1 v' (k + 1) (rs.map (Value.int .u32) ++ [.int .u32 (s % 4294967296)]))
    (hg : (wr.alloc o).grownBy w1 v.ownBlock) : PlusR w xs ys v' (s / 4294967296) (k + 1) w1 := by
  subst hs
  refine ⟨rs ++ [(c + x + y) % 4294967296], ?_, by simp [h2], h3.snoc (by omega) (by omega), ?_, ?_⟩
  · simpa using hown
  · rw [val_snoc, h2, val_take_step xs k, val_take_step ys k, hx, hy, pw_succ]
    have e : pw k * (c + x + y) = pw k * ((c + x + y) % 4294967296) + 4294967296 * pw k * ((c + x + y) / 4294967296) := by
      have : c + x + y = (c + x + y) % 4294967296 + 4294967296 * ((c + x + y) / 4294967296) := by omega
      conv => lhs; rw [this]
      rw [Int.mul_add, ← Int.mul_assoc, Int.mul_comm (pw k) 4294967296]
    rw [Int.mul_add, Int.mul_add] at e
    omega
  · exact (h5.alloc h5.size o).grown hg (by have := h5.size; simp; omega) (fun j hj => (h1.lt j hj).1)
theorem cell_new1 (w : World) (x : Value) (t : TypeId) : ∀ (j : Nat) (u : Value), [x][j]? = some u → (w.alloc (.cells #[x] t)).cell? ((⟨w.heap.size, 0, none⟩ : Addr).add j) = some u := by
  intro j u hj
  match j, hj with
  | 0, hj => simp at hj; subst hj; simp [Addr.add, go_sem]
set_option maxHeartbeats 2000000 in
set_option maxRecDepth 100000 in
theorem plus_walk (w : World) (xs ys : List Int) (a b : Option Addr) (ca cb : Nat) (ha : xs.length ≤ 1000) (hb : ys.length ≤ 1000) (da : Dig xs) (db : Dig ys)
    (sa : 0 < xs.length → ∃ g o, a = some ⟨g, o, none⟩ ∧ CellsAt w g o xs) (sb : 0 < ys.length → ∃ g o, b = some ⟨g, o, none⟩ ∧ CellsAt w g o ys) :
    Calls Try.prog 46 #[.slice a xs.length ca, .slice b ys.length cb] w fun e w' => (∃ u, e = .returned u ∧ Bn w' u (val xs + val ys)) ∧ Below w.heap.size w w' := by
  obtain ⟨i0, hi, hz0, hz1, hz2⟩ := info_parts info51
  have I0 := hid hi
  have I1 := hid hz0
  have I2 := hid hz1
  have I3 := hid hz2
  clear hi hz0 hz1 hz2
  go_enter Try.func46, Try.ntmps46
  go_wp2
  go_loopw [5, 6, 7] (fun v cv iv wr => ∃ (k : Nat) (c : Int), iv = .int .i64 k ∧ cv = .int .u64 c ∧ 0 ≤ c ∧ c ≤ 1 ∧ (k ≤ max xs.length ys.length ∨ k = max xs.length ys.length + 1 ∧ c = 0) ∧ PlusR w xs ys v c k wr)
    (fun _ cv iv _ => 2 * (max xs.length ys.length - (intOf iv).toNat) + (intOf cv).toNat)
  case atStart => exact ⟨0, 0, rfl, rfl, by decide, by decide, Or.inl (Nat.zero_le _), plusR_start w xs ys⟩
  case round =>
    obtain ⟨k, c, rfl, rfl, c0, c1, hk, rs, r1, r2, r3, r4, r5⟩ := hrel
    have dx := at0_dig xs da k
    have dy := at0_dig ys db k
    have hsz := r5.size
    have H1 := hid r1
    have H2 := hid r2
    have H3 := hid r3
    have H4 := hid r4
    have H5 := hid r5
    have HK := hid hk
    have hk1 : k ≤ 1001 := by omega
    by_cases hA : k < xs.length
    · by_cases hB : k < ys.length
      · skip
        obtain ⟨ga, oa, rfl, hca⟩ := sa (by omega)
        have cellA := (hca.below r5 (Nat.le_refl _)).2 k hA
        obtain ⟨x, hx⟩ : ∃ x, at0 xs k = x := ⟨_, rfl⟩
        rw [hx] at cellA dx
        obtain ⟨x0, x1⟩ := dx
        have HX := hid hx
        clear hx hca
        obtain ⟨gb, ob, rfl, hcb⟩ := sb (by omega)
        have cellB := (hcb.below r5 (Nat.le_refl _)).2 k hB
        obtain ⟨y, hy⟩ : ∃ y, at0 ys k = y := ⟨_, rfl⟩
        rw [hy] at cellB dy
        obtain ⟨y0, y1⟩ := dy
        have HY := hid hy
        clear hy hcb
        clear hk r1 r2 r3 r4 r5 sa sb da db
        go_wp2_with (at_builtin; refine wpList_append_own _ rfl _ _ 39 rfl w.heap.size 23 i0 (.int .u32 0) 1 4 Try.underlying39 I0.out I1.out I2.out I3.out rfl (by decide) _ _ _ rfl (H1.out.alloc _) ⟨wr.heap.size, 0, none⟩ 1 1 [.int .u32 ((c + x + y) % 4294967296)] rfl rfl ?c1 ?c2 ?c3 ?c4 ?c5 ?_)
        case c1 => exact cell_new1 _ _ _
        case c2 => intro u hu; simp at hu; subst hu; rfl
        case c3 => unfold maxLen; omega
        case c4 => omega
        case c5 => simp; omega
        intro v' w1 hown' hgrow _
        have R := hid (plusR_step (s := c + x + y) H1.out H2.out H3.out H4.out H5.out HX.out HY.out (by omega) hown' hgrow)
        clear hown' hgrow
        go_wp2
        go_roundw
        case rel => exact ⟨k + 1, (c + x + y) / 4294967296, by go_num, by go_num, by omega, by omega, by have := HK.out; omega, R.out⟩
        case measure => simp [intOf]; omega
      · skip
        obtain ⟨ga, oa, rfl, hca⟩ := sa (by omega)
        have cellA := (hca.below r5 (Nat.le_refl _)).2 k hA
        obtain ⟨x, hx⟩ : ∃ x, at0 xs k = x := ⟨_, rfl⟩
        rw [hx] at cellA dx
        obtain ⟨x0, x1⟩ := dx
        have HX := hid hx
        clear hx hca
        have HY := hid (show at0 ys k = 0 by unfold at0; rw [List.getElem?_eq_none (by omega)]; rfl)
        clear hk r1 r2 r3 r4 r5 sa sb da db
        go_wp2_with (at_builtin; refine wpList_append_own _ rfl _ _ 39 rfl w.heap.size 23 i0 (.int .u32 0) 1 4 Try.underlying39 I0.out I1.out I2.out I3.out rfl (by decide) _ _ _ rfl (H1.out.alloc _) ⟨wr.heap.size, 0, none⟩ 1 1 [.int .u32 ((c + x) % 4294967296)] rfl rfl ?c1 ?c2 ?c3 ?c4 ?c5 ?_)
        case c1 => exact cell_new1 _ _ _
        case c2 => intro u hu; simp at hu; subst hu; rfl
        case c3 => unfold maxLen; omega
        case c4 => omega
        case c5 => simp; omega
        intro v' w1 hown' hgrow _
        have R := hid (plusR_step (s := c + x) H1.out H2.out H3.out H4.out H5.out HX.out HY.out (by omega) hown' hgrow)
        clear hown' hgrow
        go_wp2
        go_roundw
        case rel => exact ⟨k + 1, (c + x) / 4294967296, by go_num, by go_num, by omega, by omega, by have := HK.out; omega, R.out⟩
        case measure => simp [intOf]; omega
    · by_cases hB : k < ys.length
      · skip
        have HX := hid (show at0 xs k = 0 by unfold at0; rw [List.getElem?_eq_none (by omega)]; rfl)
        obtain ⟨gb, ob, rfl, hcb⟩ := sb (by omega)
        have cellB := (hcb.below r5 (Nat.le_refl _)).2 k hB
        obtain ⟨y, hy⟩ : ∃ y, at0 ys k = y := ⟨_, rfl⟩
        rw [hy] at cellB dy
        obtain ⟨y0, y1⟩ := dy
        have HY := hid hy
        clear hy hcb
        clear hk r1 r2 r3 r4 r5 sa sb da db
        go_wp2_with (at_builtin; refine wpList_append_own _ rfl _ _ 39 rfl w.heap.size 23 i0 (.int .u32 0) 1 4 Try.underlying39 I0.out I1.out I2.out I3.out rfl (by decide) _ _ _ rfl (H1.out.alloc _) ⟨wr.heap.size, 0, none⟩ 1 1 [.int .u32 ((c + y) % 4294967296)] rfl rfl ?c1 ?c2 ?c3 ?c4 ?c5 ?_)
        case c1 => exact cell_new1 _ _ _
        case c2 => intro u hu; simp at hu; subst hu; rfl
        case c3 => unfold maxLen; omega
        case c4 => omega
        case c5 => simp; omega
        intro v' w1 hown' hgrow _
        have R := hid (plusR_step (s := c + y) H1.out H2.out H3.out H4.out H5.out HX.out HY.out (by omega) hown' hgrow)
        clear hown' hgrow
        go_wp2
        go_roundw
        case rel => exact ⟨k + 1, (c + y) / 4294967296, by go_num, by go_num, by omega, by omega, by have := HK.out; omega, R.out⟩
        case measure => simp [intOf]; omega
      · by_cases hC : 0 < c
        · skip
          have HX := hid (show at0 xs k = 0 by unfold at0; rw [List.getElem?_eq_none (by omega)]; rfl)
          have HY := hid (show at0 ys k = 0 by unfold at0; rw [List.getElem?_eq_none (by omega)]; rfl)
          clear hk r1 r2 r3 r4 r5 sa sb da db
          go_wp2_with (at_builtin; refine wpList_append_own _ rfl _ _ 39 rfl w.heap.size 23 i0 (.int .u32 0) 1 4 Try.underlying39 I0.out I1.out I2.out I3.out rfl (by decide) _ _ _ rfl (H1.out.alloc _) ⟨wr.heap.size, 0, none⟩ 1 1 [.int .u32 (c % 4294967296)] rfl rfl ?c1 ?c2 ?c3 ?c4 ?c5 ?_)
          case c1 => exact cell_new1 _ _ _
          case c2 => intro u hu; simp at hu; subst hu; rfl
          case c3 => unfold maxLen; omega
          case c4 => omega
          case c5 => simp; omega
          intro v' w1 hown' hgrow _
          have R := hid (plusR_step (s := c) H1.out H2.out H3.out H4.out H5.out HX.out HY.out (by omega) hown' hgrow)
          clear hown' hgrow
          go_wp2
          go_roundw
          case rel => exact ⟨k + 1, (c) / 4294967296, by go_num, by go_num, by omega, by omega, by have := HK.out; omega, R.out⟩
          case measure => simp [intOf]; omega
        · have ec : c = 0 := by omega
          subst ec
          have hR := hid (rd_of_owns r1 r2)
          have hV : val rs = val xs + val ys := by rw [val_take_all xs k (by omega), val_take_all ys k (by omega)] at r4; omega
          have HV := hid hV
          clear hk r1 r2 r3 r4 r5 sa sb da db hV
          go_wp2_with fail
          refine (trimmed_any wr _ rs hR.out H3.out).mono ?_
          rintro e w1 ⟨⟨u, rfl, hu⟩, rfl⟩
          have HU := hid hu
          clear hu
          go_wp2
          go_ret
          exact ⟨⟨u, rfl, by rw [← HV.out]; exact HU.out⟩, H5.out⟩
theorem plus_any (w : World) (u v : Value) (x y : Int) (hu : Bn w u x) (hv : Bn w v y) (hx : x < pw 1000) (hy : y < pw 1000) :
    Calls Try.prog 46 #[u, v] w fun e w' => (∃ r, e = .returned r ∧ Bn w' r (x + y)) ∧ Below w.heap.size w w' := by
  obtain ⟨xs, x1, x2, x3, rfl⟩ := hu
  obtain ⟨ys, y1, y2, y3, rfl⟩ := hv
  obtain ⟨a, ca, rfl, a1, a2⟩ := x1.shape
  obtain ⟨b, cb, rfl, b1, b2⟩ := y1.shape
  exact plus_walk w xs ys a b ca cb (len_le xs x2 x3 1000 hx) (len_le ys y2 y3 1000 hy) x2 y2 a2 b2
end Go.Proofs.Ytegdhffejmbakaa
