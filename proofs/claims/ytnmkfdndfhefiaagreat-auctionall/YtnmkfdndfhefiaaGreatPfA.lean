/-
  AuctionQuotes: the walk.
-/
import Derived.Test.YtnmkfdndfhefiaaGreatPeA
namespace Go.Proofs.YtnmkfdndfhefiaaGreat
open Go.RowKit Go.Deep Go.Shelf
set_option linter.unusedVariables false
set_option linter.unusedSimpArgs false
set_option maxHeartbeats 16000000
set_option maxRecDepth 100000
attribute [local go_sem ↓] Go.wp_at_zero Go.wp_at_succ
/-- interests that came in. -/
def Iz (w : World) (q : Option Addr) (l : List It) : Prop := ∀ i (h : i < l.length), ∃ b off, q = some ⟨b, off, none⟩ ∧ b < w.heap.size ∧ ∀ j, j < 6 → w.cell? ⟨b, off + i * 6 + j, none⟩ = (irow l[i]).toList[j]?
theorem Iz.on {w w' : World} {q : Option Addr} {l : List It} (h : Iz w q l) (hb : Below w.heap.size w w') : Iz w' q l := fun i hi => by
  obtain ⟨b, off, e, hlt, hc⟩ := h i hi
  exact ⟨b, off, e, Nat.lt_of_lt_of_le hlt hb.size, fun j hj => (hb.cell (p := ⟨b, off + i * 6 + j, none⟩) hlt).trans (hc j hj)⟩
theorem Iz.cells {w : World} {q : Option Addr} {l : List It} (h : Iz w q l) {i : Nat} (hi : i < l.length) : ∃ b off, q = some ⟨b, off, none⟩ ∧ w.cell? ⟨b, off + i * 6, none⟩ = some (.int .u64 l[i].id) ∧ w.cell? ⟨b, off + i * 6 + 1, none⟩ = some (.int .u32 l[i].mb) ∧ w.cell? ⟨b, off + i * 6 + 2, none⟩ = some (.int .i64 l[i].sd) ∧ w.cell? ⟨b, off + i * 6 + 3, none⟩ = some (.int .i64 l[i].ty) ∧ w.cell? ⟨b, off + i * 6 + 4, none⟩ = some (.int .i64 l[i].pr) ∧ w.cell? ⟨b, off + i * 6 + 5, none⟩ = some (.int .u64 l[i].qt) := by
  obtain ⟨b, off, e, _, hc⟩ := h i hi
  exact ⟨b, off, e, hc 0 (by omega), hc 1 (by omega), hc 2 (by omega), hc 3 (by omega), hc 4 (by omega), hc 5 (by omega)⟩
/-- both, whatever they hold and wherever. -/
def Py (w0 w : World) (X : Nat) : Prop := ∃ O, Ps w0 w O X
theorem Nx.py {w0 w w' : World} {O : Nat → Prop} {X : Nat} (h : Nx w0 w w' O X) : Py w0 w' X := by obtain ⟨O', h1, _⟩ := h; exact ⟨O', h1⟩
theorem Py.on {w0 w w' : World} {X : Nat} (h : Py w0 w X) (hb : Below w.heap.size w w') : Py w0 w' X := by
  obtain ⟨O, B, r, m, L, p1, c1, p2, c2, pL, cL, h⟩ := h
  exact ⟨O, B, r, m, L, p1, c1, p2, c2, pL, cL, h.on hb⟩
theorem Py.be {w0 w : World} {X : Nat} (h : Py w0 w X) : Below w0.heap.size w0 w := by
  obtain ⟨O, B, r, m, L, p1, c1, p2, c2, pL, cL, h⟩ := h
  exact h.be
theorem Py.cell {w0 w : World} {X : Nat} (h : Py w0 w X) : ∃ B, w.cell? ⟨X, 0, none⟩ = some (.pointer (some ⟨B, 0, none⟩)) := by
  obtain ⟨O, B, r, m, L, p1, c1, p2, c2, pL, cL, h⟩ := h
  exact ⟨B, row_cell h.row 0⟩
theorem ptr_nil (U : World) (B : Nat) : (binOp .eql 26 (.pointer (some ⟨B, 0, none⟩)) (.pointer none)).run Tryz.prog U = .ok (.bool false) U := by kernel_rfl
theorem py0 {w0 w : World} {X : Nat} (h : Py w0 w X) (ot : Bool) (x : It) (id n : Int) : Calls Tryz.prog 6 #[.pointer (some ⟨X, 0, none⟩), .agg #[.int .i64 0, .bool ot, .int .u64 x.id, .int .u32 x.mb, .int .i64 x.sd, .int .i64 x.ty, .int .i64 x.pr, .int .u64 x.qt, .int .u64 id, .int .i64 n]] w fun e w' => e = .returned (.bool true) ∧ Hid (Py w0 w' X) := by
  obtain ⟨O, B, r, m, L, p1, c1, p2, c2, pL, cL, h⟩ := h
  exact (step0 h ot x id n).mono (fun e w' hh => ⟨hh.1, hid hh.2.py⟩)
theorem py2 {w0 w : World} {X : Nat} (h : Py w0 w X) (ot : Bool) (x : It) (id n : Int) : Calls Tryz.prog 6 #[.pointer (some ⟨X, 0, none⟩), .agg #[.int .i64 2, .bool ot, .int .u64 x.id, .int .u32 x.mb, .int .i64 x.sd, .int .i64 x.ty, .int .i64 x.pr, .int .u64 x.qt, .int .u64 id, .int .i64 n]] w fun e w' => e = .returned (.bool true) ∧ Hid (Py w0 w' X) := by
  obtain ⟨O, B, r, m, L, p1, c1, p2, c2, pL, cL, h⟩ := h
  exact (step2 h ot x id n).mono (fun e w' hh => ⟨hh.1, hid hh.2.py⟩)
theorem py3 {w0 w : World} {X : Nat} (h : Py w0 w X) (ot : Bool) (x : It) (id n : Int) : Calls Tryz.prog 6 #[.pointer (some ⟨X, 0, none⟩), .agg #[.int .i64 3, .bool ot, .int .u64 x.id, .int .u32 x.mb, .int .i64 x.sd, .int .i64 x.ty, .int .i64 x.pr, .int .u64 x.qt, .int .u64 id, .int .i64 n]] w fun e w' => e = .returned (.bool true) ∧ Hid (Py w0 w' X) := by
  obtain ⟨O, B, r, m, L, p1, c1, p2, c2, pL, cL, h⟩ := h
  exact (step3 h ot x id n).mono (fun e w' hh => ⟨hh.1, hid hh.2.py⟩)
theorem py4 {w0 w : World} {X : Nat} (h : Py w0 w X) (ot : Bool) (x : It) (id n : Int) : Calls Tryz.prog 6 #[.pointer (some ⟨X, 0, none⟩), .agg #[.int .i64 4, .bool ot, .int .u64 x.id, .int .u32 x.mb, .int .i64 x.sd, .int .i64 x.ty, .int .i64 x.pr, .int .u64 x.qt, .int .u64 id, .int .i64 n]] w fun e w' => e = .returned (.bool true) ∧ Hid (Py w0 w' X) := by
  obtain ⟨O, B, r, m, L, p1, c1, p2, c2, pL, cL, h⟩ := h
  exact (step4 h ot x id n).mono (fun e w' hh => ⟨hh.1, hid hh.2.py⟩)
theorem py5 {w0 w : World} {X : Nat} (h : Py w0 w X) (ot : Bool) (x : It) (id n : Int) : Calls Tryz.prog 6 #[.pointer (some ⟨X, 0, none⟩), .agg #[.int .i64 5, .bool ot, .int .u64 x.id, .int .u32 x.mb, .int .i64 x.sd, .int .i64 x.ty, .int .i64 x.pr, .int .u64 x.qt, .int .u64 id, .int .i64 n]] w fun e w' => e = .returned (.bool true) ∧ Hid (Py w0 w' X) := by
  obtain ⟨O, B, r, m, L, p1, c1, p2, c2, pL, cL, h⟩ := h
  exact (step5 h ot x id n).mono (fun e w' hh => ⟨hh.1, hid hh.2.py⟩)
theorem py6 {w0 w : World} {X : Nat} (h : Py w0 w X) (ot : Bool) (x : It) (id n : Int) : Calls Tryz.prog 6 #[.pointer (some ⟨X, 0, none⟩), .agg #[.int .i64 6, .bool ot, .int .u64 x.id, .int .u32 x.mb, .int .i64 x.sd, .int .i64 x.ty, .int .i64 x.pr, .int .u64 x.qt, .int .u64 id, .int .i64 n]] w fun e w' => e = .returned (.bool true) ∧ Hid (Py w0 w' X) := by
  obtain ⟨O, B, r, m, L, p1, c1, p2, c2, pL, cL, h⟩ := h
  exact (step6 h ot x id n).mono (fun e w' hh => ⟨hh.1, hid hh.2.py⟩)
theorem pyl {w0 w : World} {X : Nat} (h : Py w0 w X) (s : Int) : Calls Tryz.prog 7 #[.pointer (some ⟨X, 0, none⟩), .int .i64 s] w fun e w' => e = .returned (.bool true) ∧ Hid (Py w0 w' X) := by
  obtain ⟨O, B, r, m, L, p1, c1, p2, c2, pL, cL, h⟩ := h
  exact (listed_any h s).mono (fun e w' hh => ⟨hh.1, hid hh.2.py⟩)
theorem quotes_walk (r : Int) (q : Option Addr) (cap : Nat) (l : List It) (n : Int) (w : World) (h : Iz w q l) (hm : l.length ≤ maxLen) : Calls Tryz.prog 4 #[.int .i64 r, .slice q l.length cap, .int .i64 n] w fun e w' => e = .returned (.bool true) ∧ Below w.heap.size w w' := by
  obtain ⟨k, hk⟩ : ∃ k, l.length = k := ⟨_, rfl⟩
  have HKK := hid hk
  unfold maxLen at hm
  rw [hk] at hm ⊢
  cases hw : nwk r 4096 with
  | false =>
    have CM := hid (made_bad r 4096 w hw)
    clear hw hk
    go_enter Tryz.func4, Tryz.ntmps4
    go_wp2_with (go_at_call 5; with_reducible refine (CM.out).mono ?_; rintro e w1 ⟨X, rfl, hx, hb⟩; have V1 := hid hb; clear hb)
    go_ret
    exact ⟨rfl, V1.out⟩
  | true =>
    have CM := hid ((made_at r 4096 w hw).mono (R' := fun e w' => ∃ X, e = .returned (.tuple #[.pointer (some ⟨X, 0, none⟩), .bool true]) ∧ Hid (Py w w' X)) (fun e w' hh => by obtain ⟨X, B, h1, O, h2⟩ := hh; exact ⟨X, h1, hid ⟨O, _, _, _, _, _, _, _, _, _, _, h2⟩⟩))
    have HIZ := hid h
    have S0 := hid (show ∀ (X : Nat) (U : World) (x : It), Py w U X → Calls Tryz.prog 6 #[.pointer (some ⟨X, 0, none⟩), .agg #[.int .i64 0, .bool false, .int .u64 x.id, .int .u32 x.mb, .int .i64 x.sd, .int .i64 x.ty, .int .i64 x.pr, .int .u64 x.qt, .int .u64 0, .int .i64 0]] U fun e w' => e = .returned (.bool true) ∧ Hid (Py w w' X) from fun X U x hU => py0 hU false x 0 0)
    have S4 := hid (show ∀ (X : Nat) (U : World), Py w U X → Calls Tryz.prog 6 #[.pointer (some ⟨X, 0, none⟩), .agg #[.int .i64 4, .bool false, .int .u64 0, .int .u32 0, .int .i64 0, .int .i64 0, .int .i64 0, .int .u64 0, .int .u64 0, .int .i64 n]] U fun e w' => e = .returned (.bool true) ∧ Hid (Py w w' X) from fun X U hU => py4 hU false ⟨0, 0, 0, 0, 0, 0⟩ 0 n)
    have S5 := hid (show ∀ (X : Nat) (U : World), Py w U X → Calls Tryz.prog 6 #[.pointer (some ⟨X, 0, none⟩), .agg #[.int .i64 5, .bool false, .int .u64 0, .int .u32 0, .int .i64 0, .int .i64 0, .int .i64 0, .int .u64 0, .int .u64 0, .int .i64 0]] U fun e w' => e = .returned (.bool true) ∧ Hid (Py w w' X) from fun X U hU => py5 hU false ⟨0, 0, 0, 0, 0, 0⟩ 0 0)
    have S6 := hid (show ∀ (X : Nat) (U : World), Py w U X → Calls Tryz.prog 6 #[.pointer (some ⟨X, 0, none⟩), .agg #[.int .i64 6, .bool false, .int .u64 0, .int .u32 0, .int .i64 0, .int .i64 0, .int .i64 0, .int .u64 0, .int .u64 0, .int .i64 0]] U fun e w' => e = .returned (.bool true) ∧ Hid (Py w w' X) from fun X U hU => py6 hU false ⟨0, 0, 0, 0, 0, 0⟩ 0 0)
    have SL := hid (fun (X : Nat) (U : World) (s : Int) (hU : Py w U X) => pyl hU s)
    clear hw hk h
    go_enter Tryz.func4, Tryz.ntmps4
    go_upto_region 5 with (go_at_call 5; with_reducible refine (CM.out).mono ?_; rintro e w1 ⟨X, rfl, HP⟩; obtain ⟨B, k0⟩ := HP.out.cell; have pq : ∀ U, (binOp .eql 26 (.pointer (some ⟨B, 0, none⟩)) (.pointer none)).run Tryz.prog U = .ok (.bool false) U := fun U => ptr_nil U B)
    clear k0 pq CM
    go_loopw [9] (fun iv wr => ∃ i : Nat, i ≤ k ∧ iv = .int .i64 i ∧ Hid (Py w wr X)) (fun iv _ => k - (intOf iv).toNat)
    case atStart => exact ⟨0, Nat.zero_le _, rfl, HP⟩
    case round =>
      obtain ⟨i, hik, rfl, HPi⟩ := hrel
      by_cases hlt : i < k
      · have hil : i < l.length := by rw [HKK.out]; exact hlt
        obtain ⟨b, off, hq, a0, a1, a2, a3, a4, a5⟩ := (HIZ.out.on HPi.out.be).cells hil
        subst hq
        obtain ⟨x, hx⟩ : ∃ z, l[i] = z := ⟨_, rfl⟩
        rw [hx] at a0 a1 a2 a3 a4 a5
        have i0' : (0 : Int) ≤ (i : Int) := by omega
        have i1 : (i : Int) < (k : Int) := by omega
        clear hx
        go_wp2_with (go_at_call 6; with_reducible refine (S0.out X _ x HPi.out).mono ?_; rintro e w2 ⟨rfl, HP2⟩)
        go_roundw
        case rel => exact ⟨i + 1, by omega, by go_num, HP2⟩
        case measure => simp [intOf]; omega
      · obtain rfl : i = k := by omega
        go_wp2_with (first | (go_at_call 6; with_reducible refine (S4.out X _ HPi.out).mono ?_; rintro e v4 ⟨rfl, P4⟩) | (go_at_call 6; with_reducible refine (S5.out X _ P4.out).mono ?_; rintro e v5 ⟨rfl, P5⟩) | (go_at_call 6; with_reducible refine (S6.out X _ P5.out).mono ?_; rintro e v6 ⟨rfl, P6⟩) | (go_at_call 7; with_reducible refine (SL.out X _ 1 P6.out).mono ?_; rintro e v7 ⟨rfl, P7⟩) | (go_at_call 7; with_reducible refine (SL.out X _ 2 P7.out).mono ?_; rintro e v8 ⟨rfl, P8⟩) | (go_at_call 6; with_reducible refine (S5.out X _ P8.out).mono ?_; rintro e v9 ⟨rfl, P9⟩))
        go_ret
        exact ⟨rfl, P9.out.be⟩
end Go.Proofs.YtnmkfdndfhefiaaGreat
