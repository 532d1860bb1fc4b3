/-
  The sums of a side; what a price comes to.
-/
import Derived.Test.YtnmkfdndfhefiaaGreatAuE
namespace Go.Proofs.YtnmkfdndfhefiaaGreat
open Go.RowKit Go.Deep Go.Sort
set_option linter.unusedVariables false
set_option linter.unusedSimpArgs false
set_option maxHeartbeats 2000000
set_option maxRecDepth 100000
theorem infoU : (Tryz.prog.info? 32).map (fun i => (i.zero, i.size, i.bytes)) = some (some (.int .u64 0), 1, 8) := by kernel_rfl
/-- one's own rows behind one's own, in a region that draws its order. -/
theorem step_app_mine {w : World} {ops : Array Oper} {oo : Oper} {a : Act} {K : Act → World → Prop} {Q : Exit → Act → World → Prop} {E : Prop} (hgd : oo.guard = none) (s x : Operand) (t e : TypeId) (z : Value) (size bytes : Nat)
    (ho : oo.op = .call { callee := .builtin .append, args := #[s, x], argTypes := #[t, t] }) (ht : Tryz.prog.underlying t = some (.slice e)) (hinf : (Tryz.prog.info? e).map (fun i => (i.zero, i.size, i.bytes)) = some (some z, size, bytes)) (hzs : z.cells.size = size) (hsz : 0 < size)
    (base base2 : Nat) (v : Value) (n : Nat) (ys : List Value) (hs : a.eval s = v) (hown : w.ownsRow base e size v n ys)
    (ad : Addr) (c m : Nat) (xs : List Value) (hx : a.eval x = .slice (some ad) m c) (ho2 : w.ownsRow base2 e size (.slice (some ad) m c) m xs) (h1 : ∀ u ∈ xs, u.oneCell' = true)
    (h63 : n + m ≤ maxLen) (hbytes : (n + m) * bytes ≤ 140737488355328) (hbase : base ≤ w.heap.size)
    (h : ∀ v' w', w'.ownsRow base e size v' (n + m) (ys ++ xs) → w.grownBy w' v.ownBlock → K (a.put oo.dst v') w') :
    if Region.wanted oo (yielded ops a.tmps) = true then Oper.wp Tryz.prog oo a w K Q else E := by
  have hw : Region.wanted oo (yielded ops a.tmps) = true := by simp [Region.wanted, hgd]
  rw [if_pos hw]
  obtain ⟨i0, hi, hz0, hz1, hz2⟩ := info_parts hinf
  obtain ⟨k1, k2⟩ := own_cells ho2
  exact wp_append_own _ s x t ho base e i0 _ size bytes ht hi hz0 hz1 hz2 hzs hsz v n ys hs hown ad m c xs hx k1 k2 h1 h63 hbytes hbase (fun v' w' h2 h3 _ => h v' w' h2 h3)
/-- how much the first ones have together. -/
def sms (l : List It) (i : Nat) : List Value := (List.range (i + 1)).map fun k => Value.int .u64 (tot (l.take k))
theorem sms_len (l : List It) (i : Nat) : (sms l i).length = i + 1 := by simp [sms]
theorem sms_succ (l : List It) (i : Nat) : sms l (i + 1) = sms l i ++ [.int .u64 (tot (l.take (i + 1)))] := by simp [sms, List.range_succ]
theorem sms_get {l : List It} {i k : Nat} (h : k ≤ i) : (sms l i)[k]? = some (.int .u64 (tot (l.take k))) := by
  simp [sms, show k < i + 1 by omega]
theorem own_at {base : Nat} {w : World} {e : TypeId} {p : Option Addr} {n c : Nat} {xs : List Value} (h : w.ownsRow base e 1 (.slice p n c) n xs) {k : Nat} {v : Value} (hk : xs[k]? = some v) : ∃ g, p = some ⟨g, 0, none⟩ ∧ base ≤ g ∧ g < w.heap.size ∧ w.cell? ⟨g, k, none⟩ = some v := by
  obtain ⟨h1, ⟨e', e2⟩ | ⟨g, c', cur, e', r1, r2, r3, r4, r5, r6⟩⟩ := h
  · obtain ⟨_, rfl, _⟩ := Value.slice.inj e'
    have := (List.getElem?_eq_some_iff.1 hk).1
    omega
  · obtain ⟨rfl, _, rfl⟩ := Value.slice.inj e'
    refine ⟨g, rfl, r1, row_lt r2, ?_⟩
    have hl := (List.getElem?_eq_some_iff.1 hk).1
    have := congrArg (fun z => z[k]?) r6
    simp only [List.getElem?_take, show k < n * 1 by omega, if_true, Array.getElem?_toList] at this
    rw [row_cell r2, this, hk]
theorem made_own (w : World) (n : Nat) (hn : n + 1 ≤ maxLen) : (w.alloc (.cells (madeCells #[.int .u64 0] (n + 1)) 32)).ownsRow w.heap.size 32 1 (.slice (some ⟨w.heap.size, 0, none⟩) 1 (n + 1)) 1 [.int .u64 0] := by
  refine ⟨rfl, .inr ⟨w.heap.size, n + 1, _, rfl, Nat.le_refl _, World.alloc_heap_new _ _, by omega, hn, by simp [madeCells], ?_⟩⟩
  apply List.ext_getElem?
  intro j
  rw [List.getElem?_take]
  by_cases hj : j < 1 * 1
  · obtain rfl : j = 0 := by omega
    simp [madeCells]
  · rw [if_neg hj]
    simp
    omega
theorem sums_any (s : Int) (q : Option Addr) (c : Nat) (l : List It) (w : World) (h : Li w q c l) (ho : Sd s l) :
    Calls Tryz.prog 60 #[.slice q l.length c] w fun e w' => ∃ p d, e = .returned (.slice p (l.length + 1) d) ∧ w'.ownsRow w.heap.size 32 1 (.slice p (l.length + 1) d) (l.length + 1) (sms l l.length) ∧ Below w.heap.size w w' := by
  have hln := ho.ln
  have HL := hid h
  have HO := hid ho
  obtain ⟨n, hn⟩ : ∃ n, l.length = n := ⟨_, rfl⟩
  have HN := hid hn
  rw [hn] at hln ⊢
  obtain ⟨i0, hi0, hz0, hz1, hz2⟩ := info_parts infoU
  have mk : ∀ U : World, (Instr.makeSlice 102 (.int .i64 1) (.int .i64 ((n : Int) + 1))).run Tryz.prog U = .ok (.slice (some ⟨U.heap.size, 0, none⟩) 1 (n + 1)) (U.alloc (.cells (madeCells #[.int .u64 0] (n + 1)) 32)) := fun U => by
    have := run_make (P := Tryz.prog) U 102 32 i0 _ Tryz.underlying102 hi0 hz0 .i64 .i64 1 ((n : Int) + 1) (by omega) (by omega) (by rw [hz2]; omega) (by omega)
    rw [this, hz1, show ((n : Int) + 1).toNat = n + 1 by omega, Nat.mul_one]
    rfl
  have HM := hid (made_own w n (by unfold maxLen; omega))
  have a1 : IntKind.i64.wrap ((n : Int) + 1) = (n : Int) + 1 := by rw [IntKind.wrap_i64]; omega
  clear h ho hn hi0 hz0 hz1 hz2
  go_enter Tryz.func60, Tryz.ntmps60
  go_wp2
  go_loopw [12, 3] (fun iv lv wr => ∃ (i : Nat) (p : Option Addr) (d : Nat), i ≤ n ∧ iv = .int .i64 i ∧ lv = .slice p (i + 1) d ∧ Hid (wr.ownsRow w.heap.size 32 1 (.slice p (i + 1) d) (i + 1) (sms l i)) ∧ Hid (Below w.heap.size w wr)) (fun iv _ _ => n - (intOf iv).toNat)
  case atStart => exact ⟨0, _, _, Nat.zero_le _, rfl, rfl, hid (by have := HM.out; simpa [sms, tot] using this), hid (ball _ _)⟩
  case round =>
    obtain ⟨i, p, d, hin, rfl, rfl, HS, HB⟩ := hrel
    by_cases hlt : i < n
    · have hi : i < l.length := by rw [HN.out]; exact hlt
      obtain ⟨g, hp, a0, a1, a2, a3, a4, a5⟩ := (HL.out.on HB.out).cells hi
      subst hp
      have q1 := HO.out.tot (i + 1)
      rw [take_tot hi] at q1
      have HT := hid (take_tot hi)
      obtain ⟨z, hz⟩ : ∃ z, l[i] = z := ⟨_, rfl⟩
      rw [hz] at a0 a1 a2 a3 a4 a5 q1 HT
      have i0 : (0 : Int) ≤ (i : Int) := by omega
      have i1 : (i : Int) < (n : Int) := by omega
      have i2 : (i : Int) < (i : Int) + 1 := by omega
      clear hz
      go_upto_region 5 with fail
      clear a0 a1 a2 a3 a4 a5
      obtain ⟨X, hX⟩ : ∃ X, wr.alloc (.cells #[.int .u64 z.id, .int .u32 z.mb, .int .i64 z.sd, .int .i64 z.ty, .int .i64 z.pr, .int .u64 z.qt] 35) = X := ⟨_, rfl⟩
      have HBX := hid (show Below wr.heap.size wr X from by rw [← hX]; exact ball _ _)
      have hrow : X.heap[wr.heap.size]? = some (.cells #[.int .u64 z.id, .int .u32 z.mb, .int .i64 z.sd, .int .i64 z.ty, .int .i64 z.pr, .int .u64 z.qt] 35 (0, 0)) := by rw [← hX]; exact World.alloc_heap_new _ _
      obtain ⟨R, hR⟩ : ∃ R, wr.heap.size = R := ⟨_, rfl⟩
      rw [hR] at hrow
      rw [hX, hR]
      have HS2 := hid (own_on HS.out HBX.out)
      have a5 := row_cell hrow 5
      simp only [List.getElem?_toArray, List.getElem?_cons_succ, List.getElem?_cons_zero] at a5
      obtain ⟨g2, hp, hg2, hg3, hc⟩ := own_at HS2.out (sms_get (Nat.le_refl i))
      subst hp
      obtain ⟨t, ht⟩ : ∃ t, tot (l.take i) = t := ⟨_, rfl⟩
      rw [ht] at q1 HT hc
      have a6 : IntKind.u64.wrap (t + z.qt) = t + z.qt := by rw [IntKind.wrap_u64]; omega
      have HOW := hid (fun U (hU : Below X.heap.size X U) => own_on HS2.out hU)
      have hXs : w.heap.size ≤ X.heap.size := Nat.le_trans HB.out.size HBX.out.size
      clear hX hR hrow ht q1
      go_region_law (refine step_app_mine (by rfl) (.tmp 17) (.tmp 25) 102 32 _ 1 8 (by rfl) Tryz.underlying102 infoU rfl (by decide) w.heap.size 0 _ (i + 1) _ (by rfl) (HOW.out _ (btr (bdrew1 X) (ball _ _))) ⟨X.heap.size, 0, none⟩ 1 1 [.int .u64 (t + z.qt)] (by rfl) (made1 X.drew _ _) (by intro u hu; simp at hu; subst hu; rfl) (by unfold maxLen; omega) (by omega) (by simp; omega) ?_; intro v' w' hown hgrow; obtain ⟨p9, q9, rfl⟩ := own_form hown; have HO1 := hid hown; have HG1 := hid hgrow; clear hown hgrow)
      all_goals (
        go_wp2
        go_roundw
        case rel =>
          have hO := HO1.out
          rw [← HT.out, ← sms_succ] at hO
          refine ⟨i + 1, p9, q9, by omega, by go_num, rfl, hid hO, hid ((btr HB.out (btr HBX.out (btr (bdrew1 X) (ball _ _)))).grown HG1.out (by simp; omega) (fun k hk => ?_))⟩
          cases hk
          exact hg2
        case measure => simp [intOf]; omega)
    · obtain rfl : i = n := by omega
      go_wp2
      go_ret
      exact ⟨p, d, rfl, HS.out, HB.out⟩
/-- a quote. -/
structure Qt where
  pr : Int
  vo : Int
  su : Int
  sd : Int
  ru : Int
deriving DecidableEq
def qrow (x : Qt) : Array Value := #[.int .i64 x.pr, .int .u64 x.vo, .int .u64 x.su, .int .i64 x.sd, .int .i64 x.ru]
/-- what a price comes to. -/
def qAt (p b s : Int) : Qt := if s < b then ⟨p, s, b - s, 1, 0⟩ else if b < s then ⟨p, b, s - b, 2, 0⟩ else ⟨p, b, 0, 0, 0⟩
theorem infoQ : (Tryz.prog.info? 57).map (·.size) = some 5 := by kernel_rfl
theorem quoteAt_any (p b s : Int) (w : World) (h0 : 0 ≤ b) (h1 : 0 ≤ s) (h2 : b ≤ 17592186044416) (h3 : s ≤ 17592186044416) :
    Calls Tryz.prog 62 #[.int .i64 p, .int .u64 b, .int .u64 s] w fun e w' => e = .returned (.agg (qrow (qAt p b s))) ∧ Below w.heap.size w w' := by
  by_cases c1 : s < b
  · have e1 : min b s = s := by omega
    have e2 : IntKind.u64.wrap (b - s) = b - s := by rw [IntKind.wrap_u64]; omega
    have HE := hid (show qAt p b s = ⟨p, s, b - s, 1, 0⟩ by simp [qAt, c1])
    go_enter Tryz.func62, Tryz.ntmps62
    go_wp2
    refine bodyPost_ret (results_cell_row (fn := Tryz.f62) Tryz.results62 _ _ w.heap.size 57 #[.int .i64 p, .int .u64 s, .int .u64 (b - s), .int .i64 1, .int .i64 0] (0, 0) _ (by rfl) (row_on (World.alloc_heap_new _ _) (ball _ _)) Tryz.underlying57 rfl infoQ) rfl ⟨?_, ?_⟩
    · rw [HE.out]; rfl
    · exact btr (ball _ _) (ball _ _)
  · by_cases c2 : b < s
    · have e1 : min b s = b := by omega
      have e2 : IntKind.u64.wrap (s - b) = s - b := by rw [IntKind.wrap_u64]; omega
      have HE := hid (show qAt p b s = ⟨p, b, s - b, 2, 0⟩ by simp [qAt, c1, c2])
      go_enter Tryz.func62, Tryz.ntmps62
      go_wp2
      refine bodyPost_ret (results_cell_row (fn := Tryz.f62) Tryz.results62 _ _ w.heap.size 57 #[.int .i64 p, .int .u64 b, .int .u64 (s - b), .int .i64 2, .int .i64 0] (0, 0) _ (by rfl) (row_on (World.alloc_heap_new _ _) (ball _ _)) Tryz.underlying57 rfl infoQ) rfl ⟨?_, ?_⟩
      · rw [HE.out]; rfl
      · exact btr (ball _ _) (ball _ _)
    · have e1 : min b s = b := by omega
      have HE := hid (show qAt p b s = ⟨p, b, 0, 0, 0⟩ by simp [qAt, c1, c2])
      go_enter Tryz.func62, Tryz.ntmps62
      go_wp2
      refine bodyPost_ret (results_cell_row (fn := Tryz.f62) Tryz.results62 _ _ w.heap.size 57 #[.int .i64 p, .int .u64 b, .int .u64 0, .int .i64 0, .int .i64 0] (0, 0) _ (by rfl) (row_on (World.alloc_heap_new _ _) (ball _ _)) Tryz.underlying57 rfl infoQ) rfl ⟨?_, ?_⟩
      · rw [HE.out]; rfl
      · exact btr (ball _ _) (ball _ _)
end Go.Proofs.YtnmkfdndfhefiaaGreat
