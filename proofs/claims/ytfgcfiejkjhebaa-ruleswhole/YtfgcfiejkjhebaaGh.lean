/-
  distinct: of orders whose IDs differ.
-/
import Derived.Test.YtfgcfiejkjhebaaSrL
import Derived.Laws.OwnMore
import Derived.Laws.AppendOwnNone
import Derived.Deep.AppendLies
namespace Go.Proofs.Ytfgcfiejkjhebaa.Sr
open Go.RowKit Go.Deep
set_option linter.unusedVariables false
set_option linter.unusedSimpArgs false
set_option maxHeartbeats 8000000
set_option maxRecDepth 100000
/-- an order that rests. -/
structure Rt where
  id : Int
  mb : Int
  ty : Int
  pr : Int
  vi : Int
  hi : Int
  pk : Int
/-- orders in memory. -/
def Rz (w : World) (p : Option Addr) (l : List Rt) : Prop := ∀ i (h : i < l.length), ∃ g, p = some ⟨g, 0, none⟩ ∧ g < w.heap.size ∧ w.cell? ⟨g, i * 7, none⟩ = some (.int .u64 l[i].id) ∧ w.cell? ⟨g, i * 7 + 1, none⟩ = some (.int .u32 l[i].mb) ∧ w.cell? ⟨g, i * 7 + 2, none⟩ = some (.int .i64 l[i].ty) ∧ w.cell? ⟨g, i * 7 + 3, none⟩ = some (.int .i64 l[i].pr) ∧ w.cell? ⟨g, i * 7 + 4, none⟩ = some (.int .u64 l[i].vi) ∧ w.cell? ⟨g, i * 7 + 5, none⟩ = some (.int .u64 l[i].hi) ∧ w.cell? ⟨g, i * 7 + 6, none⟩ = some (.int .u64 l[i].pk)
theorem Rz.on {w w' : World} {p : Option Addr} {l : List Rt} (h : Rz w p l) (hb : Below w.heap.size w w') : Rz w' p l := fun i hi => by
  obtain ⟨g, e, hg, a0, a1, a2, a3, a4, a5, a6⟩ := h i hi
  exact ⟨g, e, Nat.lt_of_lt_of_le hg hb.size, (hb.cell (p := ⟨g, i * 7, none⟩) hg).trans a0, (hb.cell (p := ⟨g, i * 7 + 1, none⟩) hg).trans a1, (hb.cell (p := ⟨g, i * 7 + 2, none⟩) hg).trans a2, (hb.cell (p := ⟨g, i * 7 + 3, none⟩) hg).trans a3, (hb.cell (p := ⟨g, i * 7 + 4, none⟩) hg).trans a4, (hb.cell (p := ⟨g, i * 7 + 5, none⟩) hg).trans a5, (hb.cell (p := ⟨g, i * 7 + 6, none⟩) hg).trans a6⟩
theorem btr {a b c : World} (h : Below a.heap.size a b) (k : Below b.heap.size b c) : Below a.heap.size a c := h.trans (k.mono h.size)
theorem ball (w : World) (o : Obj) : Below w.heap.size w (w.alloc o) := (Below.refl _ _).alloc (Nat.le_refl _) _
theorem infoU : (Try.prog.info? 30).map (fun i => (i.zero, i.size, i.bytes)) = some (some (.int .u64 0), 1, 8) := by kernel_rfl
theorem own_cells {base : Nat} {w : World} {e : TypeId} {size n c : Nat} {ad : Addr} {xs : List Value} (h : w.ownsRow base e size (.slice (some ad) n c) n xs) : xs.length = n * size ∧ ∀ j u, xs[j]? = some u → w.cell? (ad.add j) = some u := by
  obtain ⟨h0, ⟨e1, _⟩ | ⟨g, c', cur, e1, r1, r2, r3, r4, r5, r6⟩⟩ := h
  · cases (Value.slice.inj e1).1
  · refine ⟨h0, fun j u hj => ?_⟩
    have e2 := (Value.slice.inj e1).1
    injection e2 with e2
    subst e2
    have hlt : j < xs.length := by rcases Nat.lt_or_ge j xs.length with h | h; exact h; rw [List.getElem?_eq_none h] at hj; cases hj
    rw [Addr.add_lit, Nat.zero_add, row_cell r2]
    have := congrArg (fun z => z[j]?) r6
    simp only [List.getElem?_take, Array.getElem?_toList] at this
    rw [if_pos (by omega)] at this
    rw [this, hj]
theorem own_form {base : Nat} {w : World} {e : TypeId} {size n : Nat} {v : Value} {xs : List Value} (h : w.ownsRow base e size v n xs) : ∃ p c, v = .slice p n c := by
  obtain ⟨_, ⟨e1, e2⟩ | ⟨g, c', cur, e1, _⟩⟩ := h
  · exact ⟨none, 0, by rw [e1, e2]⟩
  · exact ⟨_, _, e1⟩
/-- one number behind one's own. -/
theorem app_one {w : World} {ops : Array Oper} {rest : List Oper} {oo : Oper} {a : Act} {Q : Exit → Act → World → Prop} (hgd : oo.guard = none) (s x : Operand)
    (ho : oo.op = .call { callee := .builtin .append, args := #[s, x], argTypes := #[94, 94] })
    (base : Nat) (v : Value) (n : Nat) (ys : List Value) (hs : a.eval s = v) (hown : w.ownsRow base 30 1 v n ys)
    (g : Nat) (y : Int) (hx : a.eval x = .slice (some ⟨g, 0, none⟩) 1 1) (hg : w.cell? ⟨g, 0, none⟩ = some (.int .u64 y))
    (hn : n ≤ 8192) (hbase : base ≤ w.heap.size)
    (h : ∀ v' w', w'.ownsRow base 30 1 v' (n + 1) (ys ++ [.int .u64 y]) → w.grownBy w' v.ownBlock → wpList Try.prog ops Q rest (a.put oo.dst v') w') : wpList Try.prog ops Q (oo :: rest) a w := by
  obtain ⟨i0, hi, hz0, hz1, hz2⟩ : ∃ i0, Try.prog.info? 30 = some i0 ∧ i0.zero = some (.int .u64 0) ∧ i0.size = 1 ∧ i0.bytes = 8 := by
    have := infoU
    cases hh : Try.prog.info? 30 with
    | none => rw [hh] at this; cases this
    | some i => rw [hh] at this; simp at this; exact ⟨i, rfl, this.1, this.2.1, this.2.2⟩
  exact wpList_append_own _ hgd s x 94 ho base 30 i0 _ 1 8 Try.underlying94 hi hz0 hz1 hz2 rfl (by decide) v n ys hs hown ⟨g, 0, none⟩ 1 1 [.int .u64 y] hx rfl (fun j u hj => by
    cases j with
    | zero => simp at hj; subst hj; exact hg
    | succ j => simp at hj) (by intro u hu; simp at hu; subst hu; rfl) (by unfold maxLen; omega) (by omega) hbase (fun v' w' h2 h3 _ => h v' w' h2 h3)
end Go.Proofs.Ytfgcfiejkjhebaa.Sr
namespace Go.Proofs.Ytfgcfiejkjhebaa.Sr
open Go.RowKit Go.Deep
set_option linter.unusedVariables false
set_option linter.unusedSimpArgs false
set_option maxHeartbeats 8000000
set_option maxRecDepth 100000
theorem own_same {base : Nat} {w w' : World} {e : TypeId} {size n : Nat} {v : Value} {xs : List Value} (h : w.ownsRow base e size v n xs) (hs : ∀ g, v.ownBlock = some g → w'.heap[g]? = w.heap[g]?) : w'.ownsRow base e size v n xs := by
  obtain ⟨h1, h2 | ⟨g, c, cur, h2, r1, r2, r⟩⟩ := h
  · exact ⟨h1, .inl h2⟩
  · exact ⟨h1, .inr ⟨g, c, cur, h2, r1, (hs g (by rw [h2]; rfl)).trans r2, r⟩⟩
theorem own_on {base : Nat} {w w' : World} {e : TypeId} {size n : Nat} {v : Value} {xs : List Value} (h : w.ownsRow base e size v n xs) (hb : Below w.heap.size w w') : w'.ownsRow base e size v n xs := by
  have h' := h
  obtain ⟨h1, h2 | ⟨g, c, cur, h2, r1, r2, r⟩⟩ := h
  · exact ⟨h1, .inl h2⟩
  · exact own_same h' (fun g' hg' => by rw [h2] at hg'; cases hg'; exact hb.block g (row_lt r2))
theorem ins0 (p : Option Addr) (c : Nat) (w : World) : Calls Try.prog 69 #[.slice p 0 c, .int .i64 0, .int .i64 0] w fun e w' => e = .returned (.tuple #[]) ∧ w' = w := by
  go_enter Try.func69, Try.ntmps69
  go_upto_region 1 with fail
  go_loopw [6] (fun iv wr => iv = .int .i64 1 ∧ w = wr) (fun iv _ => 1)
  case atStart => exact ⟨rfl, rfl⟩
  case round =>
    obtain ⟨rfl, rfl⟩ := hrel
    go_wp2
    go_end0
    exact ⟨rfl, rfl⟩
theorem pdq0 (p : Option Addr) (c : Nat) (lim : Int) (w : World) : Calls Try.prog 62 #[.slice p 0 c, .int .i64 0, .int .i64 0, .int .i64 lim] w fun e w' => e = .returned (.tuple #[]) ∧ w' = w := by
  have CI := hid (ins0 p c w)
  go_enter Try.func62, Try.ntmps62
  go_upto_region 2 with fail
  go_loopw [1, 2] (fun av bv wr => av = .int .i64 0 ∧ bv = .int .i64 0 ∧ w = wr) (fun _ _ _ => 1)
  case atStart => exact ⟨rfl, rfl, rfl⟩
  case round =>
    obtain ⟨rfl, rfl, rfl⟩ := hrel
    go_wp2_with (go_at_call 69; with_reducible refine (CI.out).mono ?_; rintro e v1 ⟨rfl, hv⟩; subst hv)
    try simp only [Exit.inBlock, Exit.then]
    refine bodyPost_ret (results_none rfl _ _ _) rfl ?_
    exact ⟨rfl, rfl⟩
theorem sort0 (p : Option Addr) (c : Nat) (w : World) : Calls Try.prog 49 #[.slice p 0 c] w fun e w' => e = .returned (.tuple #[]) ∧ w' = w := by
  have hL := hid (Try.bits_Len 0 w (by omega) (by omega))
  obtain ⟨k, hk⟩ : ∃ k, Lib.bitLen (0 : Int).toNat = k := ⟨_, rfl⟩
  rw [hk] at hL
  have CP := hid (pdq0 p c k w)
  clear hk
  go_enter Try.func49, Try.ntmps49
  go_wp2_with (first | (go_at_call 63; with_reducible refine (hL.out).mono ?_; rintro e w9 ⟨rfl, h9⟩; subst w9) | (go_at_call 62; with_reducible refine (CP.out).mono ?_; rintro e v1 ⟨rfl, hv⟩; subst hv))
  go_end0
  exact ⟨rfl, rfl⟩
theorem compact0 (p : Option Addr) (c : Nat) (w : World) : Calls Try.prog 50 #[.slice p 0 c] w fun e w' => e = .returned (.slice p 0 c) ∧ w' = w := by
  go_enter Try.func50, Try.ntmps50
  go_wp2
  go_ret
  exact ⟨rfl, rfl⟩
/-- IDs as cells. -/
def ivs (l : List Int) : List Value := l.map (Value.int .u64)
theorem own_uz {base : Nat} {w : World} {p : Option Addr} {k c : Nat} {l : List Int} (hk : l.length = k) (h0 : 0 < k) (h : w.ownsRow base 30 1 (.slice p k c) k (ivs l)) : ∃ g, p = some ⟨g, 0, none⟩ ∧ base ≤ g ∧ Uz w g k l := by
  obtain ⟨h1, ⟨e1, e2⟩ | ⟨g, c', cur, e1, r1, r2, r3, r4, r5, r6⟩⟩ := h
  · omega
  · refine ⟨g, (Value.slice.inj e1).1, r1, hk, cur, r2, by omega, fun i hi => ?_⟩
    have := congrArg (fun z => z[i]?) r6
    simp only [List.getElem?_take, Array.getElem?_toList] at this
    rw [if_pos (by omega)] at this
    rw [this]
    unfold ivs gd
    rw [List.getElem?_map, List.getD_eq_getElem?_getD, List.getElem?_eq_getElem (by omega)]
    rfl
/-- Sort, then Compact: all stay. -/
theorem sorted_compact {base : Nat} {w : World} {p : Option Addr} {k c : Nat} {l : List Int} (hk : l.length = k) (hn : k ≤ 8192) (hd : l.Nodup) (h : w.ownsRow base 30 1 (.slice p k c) k (ivs l)) (hb : ∀ g, p = some ⟨g, 0, none⟩ → base ≤ g) :
    Calls Try.prog 49 #[.slice p k c] w fun e w' => e = .returned (.tuple #[]) ∧ Hid (Below base w w' ∧ Calls Try.prog 50 #[.slice p k c] w' fun e w'' => e = .returned (.slice p k c) ∧ Hid (Below base w w'')) := by
  by_cases h0 : k = 0
  · subst h0
    refine (sort0 p c w).mono ?_
    rintro e w' ⟨rfl, rfl⟩
    exact ⟨rfl, hid ⟨Below.refl _ _, (compact0 p c w').mono (fun e w'' hh => ⟨hh.1, hid (by rw [hh.2]; exact Below.refl _ _)⟩)⟩⟩
  · obtain ⟨g, rfl, hg, hu⟩ := own_uz hk (by omega) h
    refine (sort_any g c k l w hu (by omega)).mono ?_
    rintro e w' ⟨rfl, l', p1, u1, k1⟩
    have hsz : base ≤ w.heap.size := by obtain ⟨cur, e, _⟩ := hu.row; exact Nat.le_trans hg (Nat.le_of_lt (row_lt e))
    have hB : Below base w w' := k1.below hsz (fun j hj e => by omega)
    exact ⟨rfl, hid ⟨hB, (compact_any g c k l' w' u1 (p1.nodup_iff.2 hd) (by omega)).mono (fun e w'' hh => ⟨hh.1, hid (hB.trans (hh.2.mono (Nat.le_trans hsz k1.size)))⟩)⟩⟩
end Go.Proofs.Ytfgcfiejkjhebaa.Sr
namespace Go.Proofs.Ytfgcfiejkjhebaa.Sr
open Go.RowKit Go.Deep
set_option linter.unusedVariables false
set_option linter.unusedSimpArgs false
set_option maxHeartbeats 8000000
set_option maxRecDepth 100000
/-- what is gathered of the first lists. -/
def gth (b s : List Rt) : Nat → List Int
  | 0 => []
  | 1 => b.map Rt.id
  | _ => b.map Rt.id ++ s.map Rt.id
theorem own_blk {base : Nat} {w : World} {e : TypeId} {size n : Nat} {v : Value} {xs : List Value} (h : w.ownsRow base e size v n xs) {j : Nat} (hj : v.ownBlock = some j) : base ≤ j := by
  obtain ⟨h1, ⟨e1, _⟩ | ⟨g, c, cur, h2, r1, r⟩⟩ := h
  · rw [e1] at hj; cases hj
  · rw [h2] at hj; cases hj; exact r1
theorem distinct_any (q : Nat) (pb ps : Option Addr) (cb cs : Nat) (b s : List Rt) (w : World) (hq : w.heap[q]? = some (.cells #[.slice pb b.length cb, .slice ps s.length cs] 34 (0, 0))) (hb : Rz w pb b) (hs : Rz w ps s) (hn : b.length + s.length ≤ 4096) (hd : (b.map Rt.id ++ s.map Rt.id).Nodup) :
    Calls Try.prog 27 #[.slice (some ⟨q, 0, none⟩) 2 2] w fun e w' => e = .returned (.bool true) ∧ Below w.heap.size w w' := by
  have HQ := hid hq
  have HBZ := hid hb
  have HSZ := hid hs
  have HD := hid hd
  have HN := hid hn
  clear hq hb hs hd hn
  go_enter Try.func27, Try.ntmps27
  go_upto_region 3 with fail
  go_loopw [3, 10] (fun iv rv wr => ∃ (r : Nat) (pf : Option Addr) (k cf : Nat), rv = .int .i64 r ∧ iv = .slice pf k cf ∧ r ≤ 2 ∧ Hid ((gth b s r).length = k) ∧ Hid (wr.ownsRow w.heap.size 30 1 (.slice pf k cf) k (ivs (gth b s r))) ∧ Hid (Below w.heap.size w wr)) (fun _ rv _ => 3 - (intOf rv).toNat)
  case atStart => exact ⟨0, none, 0, 0, rfl, rfl, by omega, hid rfl, hid ⟨rfl, .inl ⟨rfl, rfl⟩⟩, hid (Below.refl _ _)⟩
  case round =>
    obtain ⟨r, pf, k, cf, rfl, rfl, r2, HK, HO, HB⟩ := hrel
    by_cases hr : r < 2
    · have ir : (r : Int) < 2 := by omega
      have ir0 : (0 : Int) ≤ (r : Int) := by omega
      have wr1 : IntKind.i64.wrap ((r : Int) + 1) = ((r + 1 : Nat) : Int) := by rw [IntKind.wrap_i64]; omega
      obtain ⟨p, l, c, hp⟩ : ∃ p l c, wr.cell? ⟨q, r, none⟩ = some (.slice p (l : List Rt).length c) ∧ Rz w p l ∧ l.length ≤ 4096 ∧ gth b s (r + 1) = gth b s r ++ l.map Rt.id ∧ (gth b s r).length + l.length ≤ 4096 := by
        have hQ := HB.out.block q (row_lt HQ.out)
        have hQ' := hQ.trans HQ.out
        have := HN.out
        rcases (show r = 0 ∨ r = 1 by omega) with rfl | rfl
        · exact ⟨pb, b, cb, row_cell hQ' 0, HBZ.out, by omega, by simp [gth], by simp [gth]; omega⟩
        · exact ⟨ps, s, cs, row_cell hQ' 1, HSZ.out, by omega, by simp [gth], by simp [gth]; omega⟩
      obtain ⟨hc, hz, hl, hg, hlen⟩ := hp
      have HZ := hid hz
      have HG := hid hg
      have HLN := hid hlen
      obtain ⟨n, hnl⟩ : ∃ n, l.length = n := ⟨_, rfl⟩
      have HNL := hid hnl
      rw [hnl] at hc hl
      clear hz hg hlen hnl
      obtain ⟨Y, rfl⟩ : ∃ Y, Y = wr := ⟨_, rfl⟩
      go_upto_region 6 with fail
      clear hc
      go_loopw [3, 16] (fun iv jv wx => ∃ (i : Nat) (pf : Option Addr) (k cf : Nat), jv = .int .i64 i ∧ iv = .slice pf k cf ∧ i ≤ n ∧ k ≤ 4096 ∧ Hid ((gth b s r ++ (l.take i).map Rt.id).length = k) ∧ Hid (wx.ownsRow w.heap.size 30 1 (.slice pf k cf) k (ivs (gth b s r ++ (l.take i).map Rt.id))) ∧ Hid (Below w.heap.size w wx)) (fun _ jv _ => n - (intOf jv).toNat)
      case atStart => exact ⟨0, pf, k, cf, rfl, rfl, by omega, by have := HLN.out; have := HK.out; omega, hid (by simp [HK.out]), hid (by simpa using HO.out), HB⟩
      case round =>
        clear HO HK
        obtain ⟨i, pf, k, cf, rfl, rfl, i1, k4, HK, HO, HBW⟩ := hrel
        by_cases hi : i < n
        · have ii : (i : Int) < (n : Int) := by omega
          have ii0 : (0 : Int) ≤ (i : Int) := by omega
          have wi : IntKind.i64.wrap ((i : Int) + 1) = ((i + 1 : Nat) : Int) := by rw [IntKind.wrap_i64]; omega
          obtain ⟨g, hpg, hgl, a0, a1, a2, a3, a4, a5, a6⟩ := (HZ.out.on HBW.out) i (by rw [HNL.out]; exact hi)
          subst hpg
          obtain ⟨x, hx⟩ : ∃ x, l[i]'(by rw [HNL.out]; exact hi) = x := ⟨_, rfl⟩
          have HX := hid hx
          rw [hx] at a0 a1 a2 a3 a4 a5 a6
          clear hx
          go_upto_region 8 with fail
          obtain ⟨R, hR⟩ : ∃ R, wr.heap.size = R := ⟨_, rfl⟩
          obtain ⟨X, hX⟩ : ∃ X, wr.alloc (.cells #[.int .u64 x.id, .int .u32 x.mb, .int .i64 x.ty, .int .i64 x.pr, .int .u64 x.vi, .int .u64 x.hi, .int .u64 x.pk] 42) = X := ⟨_, rfl⟩
          have BX := hid (show Below wr.heap.size wr X from by rw [← hX]; exact ball _ _)
          have hXR : X.heap[R]? = some (.cells #[.int .u64 x.id, .int .u32 x.mb, .int .i64 x.ty, .int .i64 x.pr, .int .u64 x.vi, .int .u64 x.hi, .int .u64 x.pk] 42 (0, 0)) := by rw [← hX, ← hR]; exact World.alloc_heap_new _ _
          rw [hX, hR]
          have c0 : X.cell? ⟨R, 0, none⟩ = some (.int .u64 x.id) := row_cell hXR 0
          have HOX := hid (own_on (own_on HO.out BX.out) (ball X (.cells #[.int .u64 x.id] 30)))
          have HCX := hid (show (X.alloc (.cells #[.int .u64 x.id] 30)).cell? ⟨X.heap.size, 0, none⟩ = some (.int .u64 x.id) from row_cell (World.alloc_heap_new X (.cells #[.int .u64 x.id] 30)) 0)
          have hbs : w.heap.size ≤ (X.alloc (.cells #[.int .u64 x.id] 30)).heap.size := Nat.le_trans HBW.out.size (Nat.le_trans BX.out.size (ball X _).size)
          clear hX hR hXR a0 a1 a2 a3 a4 a5 a6
          go_wp2_with (at_builtin; refine app_one (by rfl) (.tmp 20) (.tmp 23) (by rfl) w.heap.size _ k _ (by rfl) HOX.out X.heap.size x.id (by rfl) HCX.out (by omega) hbs ?_; intro v' w4 hown hgrow; obtain ⟨p9, q9, rfl⟩ := own_form hown; have HO4 := hid hown; have HG4 := hid hgrow; clear hown hgrow)
          have HW4 := hid (show Below w.heap.size w w4 from (btr HBW.out (btr BX.out (ball X (.cells #[.int .u64 x.id] 30)))).grown HG4.out hbs (fun j hj => own_blk HO.out hj))
          have hts : l.take (i + 1) = l.take i ++ [x] := by rw [← HX.out]; exact (List.take_append_getElem (by rw [HNL.out]; exact hi)).symm
          go_roundw
          case rel =>
            refine ⟨i + 1, p9, k + 1, q9, by go_num, rfl, by omega, by have h1 := HK.out; have h2 := HLN.out; rw [List.length_append, List.length_map, List.length_take] at h1; have := HNL.out; omega, hid ?_, hid ?_, HW4⟩
            · have h1 := HK.out
              rw [hts, List.map_append, ← List.append_assoc, List.length_append, h1]
              rfl
            · have h1 := HO4.out
              rw [hts, List.map_append, ← List.append_assoc]
              unfold ivs at h1 ⊢
              rw [List.map_append]
              exact h1
          case measure => first | (simp [intOf]; done) | (simp [intOf]; omega)
        · have ii : ¬ (i : Int) < (n : Int) := by omega
          have di : decide ((i : Int) < (n : Int)) = false := decide_eq_false ii
          have hin : i = n := by omega
          have htk : l.take i = l := List.take_of_length_le (by rw [HNL.out]; omega)
          have HK2 := hid (show (gth b s (r + 1)).length = k from by rw [HG.out, ← HK.out, htk])
          have HO2 := hid (show wr.ownsRow w.heap.size 30 1 (.slice pf k cf) k (ivs (gth b s (r + 1))) from by rw [HG.out]; have := HO.out; rw [htk] at this; exact this)
          clear htk hin
          go_wp2
          go_roundw
          case rel => exact ⟨r + 1, pf, k, cf, by go_num, rfl, by omega, HK2, HO2, HBW⟩
          case measure => first | (simp [intOf]; done) | (simp [intOf]; omega)
    · have ir : ¬ (r : Int) < 2 := by omega
      have dr : decide ((r : Int) < 2) = false := decide_eq_false ir
      have CSC := hid (sorted_compact (base := w.heap.size) (w := wr) (p := pf) (k := k) (c := cf) HK.out (by have h1 := HK.out; have h2 := HN.out; rw [show r = 2 by omega] at h1; simp [gth] at h1; omega) (by rw [show r = 2 by omega]; exact HD.out) HO.out (fun g hg => own_blk HO.out (by rw [hg]; rfl)))
      go_upto_region 12 with (go_at_call 49; with_reducible refine (CSC.out).mono ?_; rintro e v1 ⟨rfl, H1⟩)
      have C2 := hid H1.out.2
      go_wp2_with (go_at_call 50; with_reducible refine (C2.out).mono ?_; rintro e v2 ⟨rfl, H2⟩)
      go_ret
      exact ⟨rfl, HB.out.trans H2.out⟩
end Go.Proofs.Ytfgcfiejkjhebaa.Sr
