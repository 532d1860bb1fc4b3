/-
  ordersCanBe: of orders that can be.
-/
import Derived.Test.YtfgcfiejkjhebaaGh
namespace Go.Proofs.Ytfgcfiejkjhebaa.Sr
open Go.RowKit Go.Deep
set_option linter.unusedVariables false
set_option linter.unusedSimpArgs false
set_option maxHeartbeats 8000000
set_option maxRecDepth 100000
/-- an order can stand in a book whose highest ID is h. -/
def RtOk (h : Int) (x : Rt) : Prop := 1 ≤ x.id ∧ x.id ≤ h ∧ (x.ty = 1 ∨ x.ty = 5) ∧ 0 ≤ x.pr ∧ x.pr < 262144 ∧ 1 ≤ x.vi ∧ 0 ≤ x.hi ∧ 0 ≤ x.pk ∧ x.vi ≤ 4294967295 ∧ x.hi ≤ 4294967295 - x.vi ∧ x.pk ≤ 4294967295 ∧ (x.pk = 0 → x.hi = 0) ∧ (x.pk ≠ 0 → x.vi ≤ x.pk ∧ x.vi + x.hi ≤ 256 * x.pk)
def rtr (x : Rt) : Array Value := #[.int .u64 x.id, .int .u32 x.mb, .int .i64 x.ty, .int .i64 x.pr, .int .u64 x.vi, .int .u64 x.hi, .int .u64 x.pk]
theorem rests_ok (k : Int) (hk : k = 1 ∨ k = 5) (w : World) : Calls Try.prog 32 #[.int .i64 k] w fun e w' => e = .returned (.bool true) ∧ w' = w := by
  rcases hk with rfl | rfl
  · go_enter Try.func32, Try.ntmps32
    go_wp2
    go_ret
    exact ⟨rfl, rfl⟩
  · go_enter Try.func32, Try.ntmps32
    go_wp2
    go_ret
    exact ⟨rfl, rfl⟩
theorem isPrice_ok (p : Int) (h0 : 0 ≤ p) (h1 : p < 262144) (w : World) : Calls Try.prog 47 #[.int .i64 p] w fun e w' => e = .returned (.bool true) ∧ w' = w := by
  have d0 : decide (0 ≤ p) = true := by simpa using h0
  have d1 : decide (p < 262144) = true := by simpa using h1
  go_enter Try.func47, Try.ntmps47
  go_wp2
  go_ret
  exact ⟨by simp [h1], rfl⟩
theorem amounts_ok (h : Int) (x : Rt) (hx : RtOk h x) (w : World) : Calls Try.prog 48 #[.agg (rtr x)] w fun e w' => e = .returned (.bool true) ∧ Below w.heap.size w w' := by
  obtain ⟨h1, h2, h3, h4, h5, h6, h7, h8, h9, h10, h11, h12, h13⟩ := hx
  have a1 : ¬ x.vi < 1 := by omega
  have a2 : ¬ (4294967295 : Int) < x.vi := by omega
  have a3 : IntKind.u64.wrap (4294967295 - x.vi) = 4294967295 - x.vi := by rw [IntKind.wrap_u64]; omega
  have a4 : ¬ (4294967295 - x.vi) < x.hi := by omega
  have a5 : ¬ (4294967295 : Int) < x.pk := by omega
  have a6 : IntKind.u64.wrap (x.vi + x.hi) = x.vi + x.hi := by rw [IntKind.wrap_u64]; omega
  have a7 : IntKind.u64.wrap (256 * x.pk) = 256 * x.pk := by rw [IntKind.wrap_u64]; omega
  obtain ⟨id, mb, ty, pr, vi, hi, pk⟩ := x
  unfold rtr
  simp only at *
  clear h1 h2 h3 h4 h5 h6 h9 h10 h11
  by_cases hp : pk = 0
  · have b1 := h12 hp
    subst hp b1
    clear h12 h13 h7 h8
    go_enter Try.func48, Try.ntmps48
    go_wp2
    go_ret
    exact ⟨rfl, ball _ _⟩
  · obtain ⟨b1, b2⟩ := h13 hp
    have b3 : (pk == 0) = false := by simpa using hp
    clear h12 h13 h7 h8
    go_enter Try.func48, Try.ntmps48
    go_wp2
    go_ret
    exact ⟨by simp [b2], ball _ _⟩
/-- what ordersCanBe asks of each. -/
theorem ordok1_ok (P : Nat) (h : Int) (x : Rt) (hx : RtOk h x) (w : World) (hP : P < w.heap.size) (hc : w.cell? ⟨P, 0, none⟩ = some (.int .u64 h)) : Calls Try.prog 46 #[.agg (rtr x), .pointer (some ⟨P, 0, none⟩)] w fun e w' => e = .returned (.bool false) ∧ Below w.heap.size w w' := by
  have CA := hid (fun U => amounts_ok h x hx U)
  have CR := hid (fun U => rests_ok x.ty hx.2.2.1 U)
  have CP := hid (fun U => isPrice_ok x.pr hx.2.2.2.1 hx.2.2.2.2.1 U)
  have a1 : ¬ x.id < 1 := by have := hx.1; omega
  have a2 : ¬ h < x.id := by have := hx.2.1; omega
  clear hx
  obtain ⟨id, mb, ty, pr, vi, hi, pk⟩ := x
  unfold rtr at *
  simp only at *
  obtain ⟨W, hW⟩ : ∃ W, w.alloc (.cells #[.int .u64 id, .int .u32 mb, .int .i64 ty, .int .i64 pr, .int .u64 vi, .int .u64 hi, .int .u64 pk] 42) = W := ⟨_, rfl⟩
  have hB := hid (show Below w.heap.size w W from by rw [← hW]; exact ball _ _)
  have hh : W.heap[w.heap.size]? = some (.cells #[.int .u64 id, .int .u32 mb, .int .i64 ty, .int .i64 pr, .int .u64 vi, .int .u64 hi, .int .u64 pk] 42 (0, 0)) := by rw [← hW]; exact World.alloc_heap_new _ _
  have hc2 : W.cell? ⟨P, 0, none⟩ = some (.int .u64 h) := (hB.out.cell (p := ⟨P, 0, none⟩) hP).trans hc
  have c0 : W.cell? ⟨w.heap.size, 0, none⟩ = some (.int .u64 id) := row_cell hh 0
  have c1 : W.cell? ⟨w.heap.size, 1, none⟩ = some (.int .u32 mb) := row_cell hh 1
  have c2 : W.cell? ⟨w.heap.size, 2, none⟩ = some (.int .i64 ty) := row_cell hh 2
  have c3 : W.cell? ⟨w.heap.size, 3, none⟩ = some (.int .i64 pr) := row_cell hh 3
  have c4 : W.cell? ⟨w.heap.size, 4, none⟩ = some (.int .u64 vi) := row_cell hh 4
  have c5 : W.cell? ⟨w.heap.size, 5, none⟩ = some (.int .u64 hi) := row_cell hh 5
  have c6 : W.cell? ⟨w.heap.size, 6, none⟩ = some (.int .u64 pk) := row_cell hh 6
  go_enter Try.func46, Try.ntmps46
  go_upto_region 1 with fail
  clear hh hW hc
  go_wp2_with (first | (go_at_call 32; with_reducible refine (CR.out _).mono ?_; rintro e w1 ⟨rfl, rfl⟩) | (go_at_call 47; with_reducible refine (CP.out _).mono ?_; rintro e w1 ⟨rfl, rfl⟩) | (go_at_call 48; with_reducible refine (CA.out _).mono ?_; rintro e w1 ⟨rfl, H1⟩; have HA := hid H1; clear H1))
  go_ret
  exact ⟨rfl, hB.out.trans (HA.out.mono hB.out.size)⟩
end Go.Proofs.Ytfgcfiejkjhebaa.Sr
namespace Go.Proofs.Ytfgcfiejkjhebaa.Sr
open Go.RowKit Go.Deep
set_option linter.unusedVariables false
set_option linter.unusedSimpArgs false
set_option maxHeartbeats 8000000
set_option maxRecDepth 100000
theorem indexR_none (P : Nat) (h : Int) (p : Option Addr) (c : Nat) (l : List Rt) (w : World) (hz : Rz w p l) (hn : l.length ≤ 4096) (hP : P < w.heap.size) (hc : w.cell? ⟨P, 0, none⟩ = some (.int .u64 h)) (hok : ∀ i (hi : i < l.length), RtOk h l[i]) :
    Calls Try.prog 61 #[.slice p l.length c, .func (.func 46) #[] #[.pointer (some ⟨P, 0, none⟩)]] w fun e w' => e = .returned (.int .i64 (-1)) ∧ Below w.heap.size w w' := by
  have HZ := hid hz
  have HC := hid hc
  have HOK := hid hok
  obtain ⟨n, hnl⟩ : ∃ n, l.length = n := ⟨_, rfl⟩
  rw [hnl] at hn ⊢
  have HNL := hid hnl
  clear hz hc hok hnl
  go_enter Try.func61, Try.ntmps61
  go_upto_region 2 with fail
  go_loopw [8, 5] (fun iv jv wr => ∃ (i : Nat), iv = .int .i64 i ∧ i ≤ n ∧ Hid (Below w.heap.size w wr)) (fun iv _ _ => n - (intOf iv).toNat)
  case atStart => exact ⟨0, rfl, by omega, hid (Below.refl _ _)⟩
  case round =>
    obtain ⟨i, rfl, i1, HB⟩ := hrel
    by_cases hi : i < n
    · have ii : (i : Int) < (n : Int) := by omega
      have ii0 : (0 : Int) ≤ (i : Int) := by omega
      have wi : IntKind.i64.wrap ((i : Int) + 1) = ((i + 1 : Nat) : Int) := by rw [IntKind.wrap_i64]; omega
      have hil : i < l.length := by rw [HNL.out]; exact hi
      obtain ⟨g, hpg, hgl, a0, a1, a2, a3, a4, a5, a6⟩ := (HZ.out.on HB.out) i hil
      subst hpg
      have C1 := hid (ordok1_ok P h (l[i]) (HOK.out i hil) wr (Nat.lt_of_lt_of_le hP HB.out.size) ((HB.out.cell (p := ⟨P, 0, none⟩) hP).trans HC.out))
      obtain ⟨x, hx⟩ : ∃ x, l[i]'hil = x := ⟨_, rfl⟩
      rw [hx] at a0 a1 a2 a3 a4 a5 a6 C1
      unfold rtr at C1
      clear hx hil
      go_wp2_with (go_at_call 46; with_reducible refine (C1.out).mono ?_; rintro e w1 ⟨rfl, H1⟩; have HA := hid H1; clear H1)
      go_roundw
      case rel => exact ⟨i + 1, by go_num, by omega, hid (HB.out.trans (HA.out.mono HB.out.size))⟩
      case measure => first | (simp [intOf]; done) | (simp [intOf]; omega)
    · have ii : ¬ (i : Int) < (n : Int) := by omega
      have di : decide ((i : Int) < (n : Int)) = false := decide_eq_false ii
      go_wp2
      go_ret
      exact ⟨rfl, HB.out⟩
theorem contains_none (P : Nat) (h : Int) (p : Option Addr) (c : Nat) (l : List Rt) (w : World) (hz : Rz w p l) (hn : l.length ≤ 4096) (hP : P < w.heap.size) (hc : w.cell? ⟨P, 0, none⟩ = some (.int .u64 h)) (hok : ∀ i (hi : i < l.length), RtOk h l[i]) :
    Calls Try.prog 45 #[.slice p l.length c, .func (.func 46) #[] #[.pointer (some ⟨P, 0, none⟩)]] w fun e w' => e = .returned (.bool false) ∧ Below w.heap.size w w' := by
  have C := hid (indexR_none P h p c l w hz hn hP hc hok)
  clear hz hn hP hc hok
  go_enter Try.func45, Try.ntmps45
  go_wp2_with (go_at_call 61; with_reducible refine (C.out).mono ?_; rintro e w1 ⟨rfl, H1⟩; have HA := hid H1; clear H1)
  go_ret
  exact ⟨rfl, HA.out⟩
theorem ordok_any (h : Int) (p : Option Addr) (c : Nat) (l : List Rt) (w : World) (hz : Rz w p l) (hn : l.length ≤ 4096) (hok : ∀ i (hi : i < l.length), RtOk h l[i]) :
    Calls Try.prog 26 #[.slice p l.length c, .int .u64 h] w fun e w' => e = .returned (.bool true) ∧ Below w.heap.size w w' := by
  have C := hid (contains_none w.heap.size h p c l (w.alloc (.cells #[.int .u64 h] 30)) (hz.on (ball _ _)) hn (by simp) (row_cell (World.alloc_heap_new w (.cells #[.int .u64 h] 30)) 0) hok)
  clear hz hn hok
  go_enter Try.func26, Try.ntmps26
  go_wp2_with (go_at_call 45; with_reducible refine (C.out).mono ?_; rintro e w1 ⟨rfl, H1⟩; have HA := hid H1; clear H1)
  go_ret
  exact ⟨rfl, btr (ball _ _) HA.out⟩
theorem cfg_ok (cap meet : Int) (h0 : 1 ≤ cap) (h1 : cap ≤ 4096) (h2 : 0 ≤ meet) (h3 : meet ≤ 3) (w : World) :
    Calls Try.prog 23 #[.agg #[.int .i64 cap, .int .i64 meet]] w fun e w' => e = .returned (.bool true) ∧ Below w.heap.size w w' := by
  have d0 : decide (1 ≤ cap) = true := by simpa using h0
  have d1 : decide (cap ≤ 4096) = true := by simpa using h1
  have d2 : decide (0 ≤ meet) = true := by simpa using h2
  have d3 : decide (meet ≤ 3) = true := by simpa using h3
  go_enter Try.func23, Try.ntmps23
  go_wp2
  go_ret
  exact ⟨by simp [h3], ball _ _⟩
end Go.Proofs.Ytfgcfiejkjhebaa.Sr
namespace Go.Proofs.Ytfgcfiejkjhebaa.Sr
open Go.RowKit Go.Deep
set_option linter.unusedVariables false
set_option linter.unusedSimpArgs false
set_option maxHeartbeats 8000000
set_option maxRecDepth 100000
attribute [local go_sem ↓] Go.wp_at_zero Go.wp_at_succ
theorem bdw (w : World) : Below w.heap.size w w.drew := by
  refine (Below.refl _ w).drew
/-- a price is better for a side. -/
def bt (s p q : Int) : Bool := if s = 1 then decide (q < p) else decide (p < q)
theorem bt_any (s p q : Int) (w : World) : Calls Try.prog 44 #[.int .i64 s, .int .i64 p, .int .i64 q] w fun e w' => e = .returned (.bool (bt s p q)) ∧ w' = w := by
  by_cases h : s = 1
  · subst h
    go_enter Try.func44, Try.ntmps44
    go_wp2
    go_ret
    exact ⟨by simp [bt], rfl⟩
  · have h1 : (s == 1) = false := by simpa using h
    go_enter Try.func44, Try.ntmps44
    go_wp2
    go_ret
    exact ⟨by simp [bt, h], rfl⟩
theorem inprio1_ok (S : Nat) (s : Int) (x y : Rt) (hb : bt s x.pr y.pr = false) (w : World) (hS : S < w.heap.size) (hc : w.cell? ⟨S, 0, none⟩ = some (.int .i64 s)) :
    Calls Try.prog 43 #[.agg (rtr x), .agg (rtr y), .pointer (some ⟨S, 0, none⟩)] w fun e w' => (∃ r : Int, e = .returned (.int .i64 r) ∧ 0 ≤ r) ∧ Below w.heap.size w w' := by
  have C1 := hid (fun U => bt_any s x.pr y.pr U)
  rw [hb] at C1
  have C2 := hid (fun U => bt_any s y.pr x.pr U)
  obtain ⟨v, hv⟩ : ∃ v, bt s y.pr x.pr = v := ⟨_, rfl⟩
  rw [hv] at C2
  clear hv hb
  obtain ⟨id, mb, ty, pr, vi, hi, pk⟩ := x
  obtain ⟨id', mb', ty', pr', vi', hi', pk'⟩ := y
  unfold rtr
  simp only at *
  obtain ⟨V, hV⟩ : ∃ V, w.alloc (.cells #[.int .u64 id, .int .u32 mb, .int .i64 ty, .int .i64 pr, .int .u64 vi, .int .u64 hi, .int .u64 pk] 42) = V := ⟨_, rfl⟩
  have hBV := hid (show Below w.heap.size w V from by rw [← hV]; exact ball _ _)
  have hhV : V.heap[w.heap.size]? = some (.cells #[.int .u64 id, .int .u32 mb, .int .i64 ty, .int .i64 pr, .int .u64 vi, .int .u64 hi, .int .u64 pk] 42 (0, 0)) := by rw [← hV]; exact World.alloc_heap_new _ _
  have hVs : w.heap.size < V.heap.size := by rw [← hV]; simp
  obtain ⟨W, hW⟩ : ∃ W, V.alloc (.cells #[.int .u64 id', .int .u32 mb', .int .i64 ty', .int .i64 pr', .int .u64 vi', .int .u64 hi', .int .u64 pk'] 42) = W := ⟨_, rfl⟩
  have hBW := hid (show Below V.heap.size V W from by rw [← hW]; exact ball _ _)
  have hhW : W.heap[V.heap.size]? = some (.cells #[.int .u64 id', .int .u32 mb', .int .i64 ty', .int .i64 pr', .int .u64 vi', .int .u64 hi', .int .u64 pk'] 42 (0, 0)) := by rw [← hW]; exact World.alloc_heap_new _ _
  have c3 : W.cell? ⟨w.heap.size, 3, none⟩ = some (.int .i64 pr) := (hBW.out.cell (p := ⟨w.heap.size, 3, none⟩) hVs).trans (row_cell hhV 3)
  have c3' : W.cell? ⟨V.heap.size, 3, none⟩ = some (.int .i64 pr') := row_cell hhW 3
  have hc2 : W.cell? ⟨S, 0, none⟩ = some (.int .i64 s) := ((btr hBV.out hBW.out).cell (p := ⟨S, 0, none⟩) hS).trans hc
  have HB := hid (btr hBV.out hBW.out)
  go_enter Try.func43, Try.ntmps43
  go_upto_region 1 with fail
  clear hhV hhW hV hW hc hBV hBW
  cases v with
  | true =>
    go_wp2_with (first | (go_at_call 44; with_reducible refine (C1.out _).mono ?_; rintro e w1 ⟨rfl, rfl⟩) | (go_at_call 44; with_reducible refine (C2.out _).mono ?_; rintro e w1 ⟨rfl, rfl⟩))
    go_ret
    exact ⟨⟨1, rfl, by omega⟩, HB.out⟩
  | false =>
    go_wp2_with (first | (go_at_call 44; with_reducible refine (C1.out _).mono ?_; rintro e w1 ⟨rfl, rfl⟩) | (go_at_call 44; with_reducible refine (C2.out _).mono ?_; rintro e w1 ⟨rfl, rfl⟩))
    go_ret
    exact ⟨⟨0, rfl, by omega⟩, HB.out⟩
/-- a side's orders stand so. -/
def SrR (s : Int) (l : List Rt) : Prop := ∀ i (h : i + 1 < l.length), bt s l[i + 1].pr l[i].pr = false
theorem issorted_ok (S : Nat) (s : Int) (p : Option Addr) (c : Nat) (l : List Rt) (w : World) (hz : Rz w p l) (hn : l.length ≤ 4096) (hS : S < w.heap.size) (hc : w.cell? ⟨S, 0, none⟩ = some (.int .i64 s)) (ho : SrR s l) :
    Calls Try.prog 42 #[.slice p l.length c, .func (.func 43) #[] #[.pointer (some ⟨S, 0, none⟩)]] w fun e w' => e = .returned (.bool true) ∧ Below w.heap.size w w' := by
  have HZ := hid hz
  have HC := hid hc
  have HO := hid ho
  obtain ⟨n, hnl⟩ : ∃ n, l.length = n := ⟨_, rfl⟩
  rw [hnl] at hn ⊢
  have HNL := hid hnl
  clear hz hc ho hnl
  have wn : IntKind.i64.wrap ((n : Int) - 1) = (n : Int) - 1 := by rw [IntKind.wrap_i64]; omega
  go_enter Try.func42, Try.ntmps42
  go_upto_region 2 with fail
  go_loopw [5, 9] (fun iv jv wr => ∃ (m : Int), iv = .int .i64 m ∧ -1 ≤ m ∧ m < n ∧ Hid (Below w.heap.size w wr)) (fun iv _ _ => (intOf iv).toNat)
  case atStart => exact ⟨(n : Int) - 1, rfl, by omega, by omega, hid (Below.refl _ _)⟩
  case round =>
    obtain ⟨m, rfl, m0, m1, HB⟩ := hrel
    by_cases hm : 0 < m
    · obtain ⟨i, rfl⟩ : ∃ i : Nat, m = i := ⟨m.toNat, by omega⟩
      obtain ⟨k, hk⟩ : ∃ k, k + 1 = i := ⟨i - 1, by omega⟩
      have wm : IntKind.i64.wrap ((i : Int) - 1) = (k : Int) := by rw [IntKind.wrap_i64]; omega
      have ii0 : (0 : Int) ≤ (i : Int) := by omega
      have kk0 : (0 : Int) ≤ (k : Int) := by omega
      have kk : (k : Int) < (n : Int) := by omega
      have hil : i < l.length := by rw [HNL.out]; omega
      have hkl : k < l.length := by rw [HNL.out]; omega
      have hbt : bt s (l[i]).pr (l[k]).pr = false := by subst hk; exact HO.out k hil
      obtain ⟨g, hpg, hgl, -⟩ := HZ.out k hkl
      subst hpg
      have C1 := hid (fun (U : World) (hU : Below w.heap.size w U) => inprio1_ok S s (l[i]) (l[k]) hbt U (Nat.lt_of_lt_of_le hS hU.size) ((hU.cell (p := ⟨S, 0, none⟩) hS).trans HC.out))
      have CI := hid (fun (U : World) (hU : Below w.heap.size w U) => (HZ.out.on hU) i hil)
      have CK := hid (fun (U : World) (hU : Below w.heap.size w U) => (HZ.out.on hU) k hkl)
      obtain ⟨x, hx⟩ : ∃ x, l[i]'hil = x := ⟨_, rfl⟩
      obtain ⟨y, hy⟩ : ∃ x, l[k]'hkl = x := ⟨_, rfl⟩
      rw [hx] at CI C1
      rw [hy] at CK C1
      have HS := hid (fun (U : World) (hU : Below w.heap.size w U) => show ((U).cell? ⟨g, i * 7, none⟩ = some (.int .u64 x.id) ∧ (U).cell? ⟨g, i * 7 + 1, none⟩ = some (.int .u32 x.mb) ∧ (U).cell? ⟨g, i * 7 + 2, none⟩ = some (.int .i64 x.ty) ∧ (U).cell? ⟨g, i * 7 + 3, none⟩ = some (.int .i64 x.pr) ∧ (U).cell? ⟨g, i * 7 + 4, none⟩ = some (.int .u64 x.vi) ∧ (U).cell? ⟨g, i * 7 + 5, none⟩ = some (.int .u64 x.hi) ∧ (U).cell? ⟨g, i * 7 + 6, none⟩ = some (.int .u64 x.pk) ∧ (U).cell? ⟨g, k * 7, none⟩ = some (.int .u64 y.id) ∧ (U).cell? ⟨g, k * 7 + 1, none⟩ = some (.int .u32 y.mb) ∧ (U).cell? ⟨g, k * 7 + 2, none⟩ = some (.int .i64 y.ty) ∧ (U).cell? ⟨g, k * 7 + 3, none⟩ = some (.int .i64 y.pr) ∧ (U).cell? ⟨g, k * 7 + 4, none⟩ = some (.int .u64 y.vi) ∧ (U).cell? ⟨g, k * 7 + 5, none⟩ = some (.int .u64 y.hi) ∧ (U).cell? ⟨g, k * 7 + 6, none⟩ = some (.int .u64 y.pk)) from by
        obtain ⟨g1, e1, _, a0, a1, a2, a3, a4, a5, a6⟩ := CI.out U hU
        obtain ⟨g2, e2, _, b0, b1, b2, b3, b4, b5, b6⟩ := CK.out U hU
        injection e1 with e1; injection e1 with e1; subst e1
        injection e2 with e2; injection e2 with e2; subst e2
        exact ⟨a0, a1, a2, a3, a4, a5, a6, b0, b1, b2, b3, b4, b5, b6⟩)
      unfold rtr at C1
      have hkk : (k : Int) + 1 = (i : Int) := by omega
      clear hx hy hil hkl CI CK hk hbt
      have HBD := hid (show Below w.heap.size w wr.drew from HB.out.trans ((bdw _).mono HB.out.size))
      go_upto_region 4 with fail
      refine wp_region_held_drew (S := (fun U => ((U).cell? ⟨g, i * 7, none⟩ = some (.int .u64 x.id) ∧ (U).cell? ⟨g, i * 7 + 1, none⟩ = some (.int .u32 x.mb) ∧ (U).cell? ⟨g, i * 7 + 2, none⟩ = some (.int .i64 x.ty) ∧ (U).cell? ⟨g, i * 7 + 3, none⟩ = some (.int .i64 x.pr) ∧ (U).cell? ⟨g, i * 7 + 4, none⟩ = some (.int .u64 x.vi) ∧ (U).cell? ⟨g, i * 7 + 5, none⟩ = some (.int .u64 x.hi) ∧ (U).cell? ⟨g, i * 7 + 6, none⟩ = some (.int .u64 x.pk) ∧ (U).cell? ⟨g, k * 7, none⟩ = some (.int .u64 y.id) ∧ (U).cell? ⟨g, k * 7 + 1, none⟩ = some (.int .u32 y.mb) ∧ (U).cell? ⟨g, k * 7 + 2, none⟩ = some (.int .i64 y.ty) ∧ (U).cell? ⟨g, k * 7 + 3, none⟩ = some (.int .i64 y.pr) ∧ (U).cell? ⟨g, k * 7 + 4, none⟩ = some (.int .u64 y.vi) ∧ (U).cell? ⟨g, k * 7 + 5, none⟩ = some (.int .u64 y.hi) ∧ (U).cell? ⟨g, k * 7 + 6, none⟩ = some (.int .u64 y.pk)))) (by kernel_rfl) ?_ (fun hHeld => ?_)
      · (try dsimp only); (exact HS.out _ HBD.out)
      refine' wpAnyH_take (i := 0) (oi := _) (v := _) rfl (by kernel_rfl) (by kernel_rfl) (by kernel_rfl) (fun _ _ _ h => h) (Or.inl ⟨by kernel_rfl, ?hyq1⟩) (by assumption) ?restq1
      case hyq1 => (intro w hSw; (try dsimp only at hSw); go_simp; try (with_reducible rfl))
      try simp only [List.getElem_toArray, List.getElem_cons_succ, List.getElem_cons_zero, Act.put, List.setIfInBounds_toArray, List.set_cons_zero, List.set_cons_succ]
      refine' wpAnyH_take (i := 1) (oi := _) (v := _) rfl (by kernel_rfl) (by kernel_rfl) (by kernel_rfl) (fun _ _ _ h => h) (Or.inl ⟨by kernel_rfl, ?hyq2⟩) (by assumption) ?restq2
      case hyq2 => (intro w hSw; (try dsimp only at hSw); go_simp; try (with_reducible rfl))
      try simp only [List.getElem_toArray, List.getElem_cons_succ, List.getElem_cons_zero, Act.put, List.setIfInBounds_toArray, List.set_cons_zero, List.set_cons_succ]
      refine' wpAnyH_take (i := 2) (oi := _) (v := _) rfl (by kernel_rfl) (by kernel_rfl) (by kernel_rfl) (fun _ _ _ h => h) (Or.inl ⟨by kernel_rfl, ?hyq3⟩) (by assumption) ?restq3
      case hyq3 => (intro w hSw; (try dsimp only at hSw); go_simp; try (with_reducible rfl))
      try simp only [List.getElem_toArray, List.getElem_cons_succ, List.getElem_cons_zero, Act.put, List.setIfInBounds_toArray, List.set_cons_zero, List.set_cons_succ]
      refine' wpAnyH_take (i := 3) (oi := _) (v := _) rfl (by kernel_rfl) (by kernel_rfl) (by kernel_rfl) (fun _ _ _ h => h) (Or.inl ⟨by kernel_rfl, ?hyq4⟩) (by assumption) ?restq4
      case hyq4 => (intro w hSw; (try dsimp only at hSw); go_simp; try (with_reducible rfl))
      try simp only [List.getElem_toArray, List.getElem_cons_succ, List.getElem_cons_zero, Act.put, List.setIfInBounds_toArray, List.set_cons_zero, List.set_cons_succ]
      refine' wpAnyH_take (i := 4) (oi := _) (v := _) rfl (by kernel_rfl) (by kernel_rfl) (by kernel_rfl) (fun _ _ _ h => h) (Or.inl ⟨by kernel_rfl, ?hyq5⟩) (by assumption) ?restq5
      case hyq5 => (intro w hSw; (try dsimp only at hSw); go_simp; try (with_reducible rfl))
      try simp only [List.getElem_toArray, List.getElem_cons_succ, List.getElem_cons_zero, Act.put, List.setIfInBounds_toArray, List.set_cons_zero, List.set_cons_succ]
      refine' wpAnyH_take (i := 5) (oi := _) (v := _) rfl (by kernel_rfl) (by kernel_rfl) (by kernel_rfl) (fun _ _ _ h => h) (Or.inl ⟨by kernel_rfl, ?hyq6⟩) (by assumption) ?restq6
      case hyq6 => (intro w hSw; (try dsimp only at hSw); go_simp; try (with_reducible rfl))
      try simp only [List.getElem_toArray, List.getElem_cons_succ, List.getElem_cons_zero, Act.put, List.setIfInBounds_toArray, List.set_cons_zero, List.set_cons_succ]
      refine' wpAnyH_take (i := 6) (oi := _) (v := _) rfl (by kernel_rfl) (by kernel_rfl) (by kernel_rfl) (fun _ _ _ h => h) (Or.inl ⟨by kernel_rfl, ?hyq7⟩) (by assumption) ?restq7
      case hyq7 => (intro w hSw; (try dsimp only at hSw); go_simp; try (with_reducible rfl))
      try simp only [List.getElem_toArray, List.getElem_cons_succ, List.getElem_cons_zero, Act.put, List.setIfInBounds_toArray, List.set_cons_zero, List.set_cons_succ]
      refine' wpAnyH_take (i := 7) (oi := _) (v := _) rfl (by kernel_rfl) (by kernel_rfl) (by kernel_rfl) (fun _ _ _ h => h) (Or.inl ⟨by kernel_rfl, ?hyq8⟩) (by assumption) ?restq8
      case hyq8 => (intro w hSw; (try dsimp only at hSw); go_simp; try (with_reducible rfl))
      try simp only [List.getElem_toArray, List.getElem_cons_succ, List.getElem_cons_zero, Act.put, List.setIfInBounds_toArray, List.set_cons_zero, List.set_cons_succ]
      refine' wpAnyH_take (i := 8) (oi := _) (v := _) rfl (by kernel_rfl) (by kernel_rfl) (by kernel_rfl) (fun _ _ _ h => h) (Or.inl ⟨by kernel_rfl, ?hyq9⟩) (by assumption) ?restq9
      case hyq9 => (intro w hSw; (try dsimp only at hSw); go_simp; try (with_reducible rfl))
      try simp only [List.getElem_toArray, List.getElem_cons_succ, List.getElem_cons_zero, Act.put, List.setIfInBounds_toArray, List.set_cons_zero, List.set_cons_succ]
      refine' wpAnyH_take (i := 9) (oi := _) (v := _) rfl (by kernel_rfl) (by kernel_rfl) (by kernel_rfl) (fun _ _ _ h => h) (Or.inl ⟨by kernel_rfl, ?hyq10⟩) (by assumption) ?restq10
      case hyq10 => (intro w hSw; (try dsimp only at hSw); go_simp; try (with_reducible rfl))
      try simp only [List.getElem_toArray, List.getElem_cons_succ, List.getElem_cons_zero, Act.put, List.setIfInBounds_toArray, List.set_cons_zero, List.set_cons_succ]
      refine wpAnyH_ready (rs := [10]) (by kernel_rfl) (by simp) ?_
      refine AllReadyH.cons (o := _) rfl (fun K hK => ?_) AllReadyH.nil
      go_simp
      (go_at_call 43; with_reducible refine (C1.out _ HBD.out).mono ?_; rintro e w1 ⟨⟨r, rfl, hr⟩, H1⟩; have HA := hid (HBD.out.trans (H1.mono HBD.out.size)); clear H1)
      (try go_wp2_with fail)
      refine hK.out _ _ ?_ (fun hHeld => ?_)
      · (try dsimp only); (exact HS.out _ HA.out)
      clear hK K
      try simp only [List.getElem_toArray, List.getElem_cons_succ, List.getElem_cons_zero, Act.put, List.setIfInBounds_toArray, List.set_cons_zero, List.set_cons_succ]
      have hrn : ¬ r < 0 := by omega
      have drn : decide (r < 0) = false := decide_eq_false hrn
      refine' wpAnyH_take (i := 11) (oi := _) (v := _) rfl (by kernel_rfl) (by kernel_rfl) (by kernel_rfl) (fun _ _ _ h => h) (Or.inl ⟨by kernel_rfl, ?hyq11⟩) (by assumption) ?restq11
      case hyq11 => (intro w hSw; (try dsimp only at hSw); go_simp; try (with_reducible rfl))
      try simp only [List.getElem_toArray, List.getElem_cons_succ, List.getElem_cons_zero, Act.put, List.setIfInBounds_toArray, List.set_cons_zero, List.set_cons_succ]
      refine wpAnyH_done (by kernel_rfl) ?_ _
      go_wp2
      go_roundw
      case rel => exact ⟨(k : Int), by go_num, by omega, by omega, HA⟩
      case measure => first | (simp [intOf]; done) | (simp [intOf]; omega)
    · have hm' : ¬ 0 < m := hm
      have dm : decide (0 < m) = false := decide_eq_false hm
      go_wp2
      go_ret
      exact ⟨rfl, HB.out⟩
theorem inprio_any (s : Int) (p : Option Addr) (c : Nat) (l : List Rt) (w : World) (hz : Rz w p l) (hn : l.length ≤ 4096) (ho : SrR s l) :
    Calls Try.prog 24 #[.int .i64 s, .slice p l.length c] w fun e w' => e = .returned (.bool true) ∧ Below w.heap.size w w' := by
  have C := hid (issorted_ok w.heap.size s p c l (w.alloc (.cells #[.int .i64 s] 3)) (hz.on (ball _ _)) hn (by simp) (row_cell (World.alloc_heap_new w (.cells #[.int .i64 s] 3)) 0) ho)
  clear hz hn ho
  go_enter Try.func24, Try.ntmps24
  go_wp2_with (go_at_call 42; with_reducible refine (C.out).mono ?_; rintro e w1 ⟨rfl, H1⟩; have HA := hid H1; clear H1)
  go_ret
  exact ⟨rfl, btr (ball _ _) HA.out⟩
end Go.Proofs.Ytfgcfiejkjhebaa.Sr
