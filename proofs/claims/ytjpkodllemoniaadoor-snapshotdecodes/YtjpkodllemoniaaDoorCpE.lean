/-
  A copy of a book; two books compared.
-/
import Derived.Test.YtjpkodllemoniaaDoorCpA
namespace Go.Proofs.YtjpkodllemoniaaDoor.Cp
open Go.RowKit Go.Deep
set_option linter.unusedVariables false
set_option linter.unusedSimpArgs false
set_option maxHeartbeats 8000000
set_option maxRecDepth 100000
theorem infoX33all : (Tryd.prog.info? 46).map (fun i => (i.zero, i.size, i.bytes)) = some (some (.agg #[.int .u64 0, .int .u32 0, .int .i64 0, .int .i64 0, .int .u64 0, .int .u64 0, .int .u64 0]), 7, 56) := by kernel_rfl
theorem infoX27 : (Tryd.prog.info? 27).map (·.size) = some 6 := by kernel_rfl
def ors (os : List Or) : List Value := os.flatMap fun x => (orow x).toList
theorem ors_len (os : List Or) : (ors os).length = os.length * 7 := by
  induction os with
  | nil => rfl
  | cons x l ih => simp only [ors, List.flatMap_cons, List.length_append, List.length_cons] at ih ⊢; rw [ih]; simp [orow]; omega
theorem ors_get {l : List Or} {i j : Nat} (hi : i < l.length) (hj : j < 7) : (ors l)[i * 7 + j]? = (orow l[i]).toList[j]? := by
  induction l generalizing i with
  | nil => simp at hi
  | cons x l ih =>
    have hx : (orow x).toList.length = 7 := rfl
    cases i with
    | zero =>
      simp only [ors, List.flatMap_cons, Nat.zero_mul, Nat.zero_add, List.getElem_cons_zero]
      rw [List.getElem?_append_left (by rw [hx]; omega)]
    | succ i =>
      have := ih (i := i) (by simpa using hi)
      simp only [ors, List.flatMap_cons, List.getElem_cons_succ] at this ⊢
      rw [List.getElem?_append_right (by rw [hx]; omega), hx, show (i + 1) * 7 + j - 7 = i * 7 + j by omega]
      exact this
theorem orow_one (x : Or) : ∀ u ∈ (orow x).toList, u.oneCell' = true := by
  intro v hv
  simp only [orow, List.mem_cons, List.not_mem_nil, or_false] at hv
  rcases hv with rfl | rfl | rfl | rfl | rfl | rfl | rfl <;> rfl
theorem ors_one (os : List Or) : ∀ u ∈ ors os, u.oneCell' = true := by
  intro u hu
  simp only [ors, List.mem_flatMap] at hu
  obtain ⟨x, _, hx⟩ := hu
  exact orow_one x u hx
theorem osz_get {w : World} {b off : Nat} {os : List Or} (h : Osz w (some ⟨b, off, none⟩) os) {j : Nat} {u : Value} (hj : (ors os)[j]? = some u) : w.cell? ((⟨b, off, none⟩ : Addr).add j) = some u := by
  have hl : j < os.length * 7 := by rw [← ors_len]; exact (List.getElem?_eq_some_iff.1 hj).1
  have hi : j / 7 < os.length := by omega
  obtain ⟨b', off', hq, _, hc⟩ := h (j / 7) hi
  injection hq with hq
  injection hq with e1 e2 _
  subst e1
  subst e2
  have e : j / 7 * 7 + j % 7 = j := by omega
  have h1 := hc (j % 7) (by omega)
  rw [← ors_get hi (by omega : j % 7 < 7), e, hj] at h1
  have e3 : (⟨b, off, none⟩ : Addr).add j = ⟨b, off + j, none⟩ := by unfold Addr.add; split <;> simp_all
  rw [e3, show off + j = off + j / 7 * 7 + j % 7 by omega]
  exact h1
theorem own_osz {base : Nat} {w : World} {p : Option Addr} {c : Nat} {os : List Or} (h : w.ownsRow base 46 7 (.slice p os.length c) os.length (ors os)) : Osz w p os ∧ os.length ≤ c ∧ c < 9223372036854775808 := by
  obtain ⟨h1, ⟨e, e2⟩ | ⟨g, c', cur, e, r1, r2, r3, r4, r5, r6⟩⟩ := h
  · obtain ⟨rfl, _, rfl⟩ := Value.slice.inj e
    exact ⟨fun i hi => by omega, by omega, by omega⟩
  · obtain ⟨rfl, _, rfl⟩ := Value.slice.inj e
    refine ⟨fun i hi => ⟨g, 0, rfl, row_lt r2, fun j hj => ?_⟩, r3, by unfold maxLen at r4; omega⟩
    have := congrArg (fun z => z[i * 7 + j]?) r6
    have hlt : i * 7 + j < os.length * 7 := by omega
    simp only [List.getElem?_take, hlt, if_true, Array.getElem?_toList] at this
    rw [row_cell r2, Nat.zero_add, this, ors_get hi hj]
theorem own_form {base : Nat} {w : World} {e : TypeId} {size n : Nat} {v : Value} {xs : List Value} (h : w.ownsRow base e size v n xs) : ∃ p c, v = .slice p n c := by
  obtain ⟨_, ⟨rfl, rfl⟩ | ⟨g, c, cur, rfl, _⟩⟩ := h
  · exact ⟨none, 0, rfl⟩
  · exact ⟨_, _, rfl⟩
theorem grown_refl (w : World) (r : Option Nat) : w.grownBy w r := ⟨rfl, rfl, rfl, Nat.le_refl _, fun _ _ _ => rfl⟩
/-- orders that lie wherever are put behind one's own. -/
theorem wpList_app_osz {w : World} {ops : Array Oper} {rest : List Oper} {oo : Oper} {a : Act} {Q : Exit → Act → World → Prop} (hgd : oo.guard = none) (s x : Operand)
    (ho : oo.op = .call { callee := .builtin .append, args := #[s, x], argTypes := #[24, 24] })
    (base : Nat) (v : Value) (hs : a.eval s = v) (hown : w.ownsRow base 46 7 v 0 [])
    (q : Option Addr) (c : Nat) (os : List Or) (n : Nat) (hos : os.length = n) (hx : a.eval x = .slice q n c) (ho2 : Osz w q os) (hq : q = none → n = 0 ∧ c = 0)
    (hbytes : n * 56 ≤ 140737488355328) (hbase : base ≤ w.heap.size)
    (h : ∀ v' w', w'.ownsRow base 46 7 v' n (ors os) → w.grownBy w' v.ownBlock → wpList Tryd.prog ops Q rest (a.put oo.dst v') w') : wpList Tryd.prog ops Q (oo :: rest) a w := by
  obtain ⟨i0, hi, hz0, hz1, hz2⟩ := info_parts infoX33all
  subst hos
  cases q with
  | none =>
    obtain ⟨h0, rfl⟩ := hq rfl
    have hnil : os = [] := List.length_eq_zero_iff.1 h0
    subst hnil
    exact wpList_append_own_none hgd s x 24 ho base 46 i0 7 Tryd.underlying24 hi v 0 [] hs hown hx (h v w hown (grown_refl _ _))
  | some ad =>
    refine wpList_append_own _ hgd s x 24 ho base 46 i0 _ 7 56 Tryd.underlying24 hi hz0 hz1 hz2 rfl (by decide) v 0 [] hs hown ad os.length c (ors os) hx (ors_len _) (fun j u hj => by
      have hl : j < os.length * 7 := by rw [← ors_len]; exact (List.getElem?_eq_some_iff.1 hj).1
      obtain ⟨b, off, hq', _⟩ := ho2 0 (by omega)
      injection hq' with hq'
      subst hq'
      exact osz_get ho2 hj) (ors_one _) (by unfold maxLen; omega) (by omega) hbase (fun v' w' h2 h3 _ => h v' w' (by simpa using h2) h3)
theorem set_row {w : World} {B k : Nat} {row : Array Value} {t : TypeId} (v : Value) (h : w.heap[B]? = some (.cells row t (0, 0))) : (w.setCell ⟨B, k, none⟩ v).heap[B]? = some (.cells (row.setIfInBounds k v) t (0, 0)) := heap_setCell_same w B k row t v h
theorem setRow_kp (w : World) (g : Nat) (cs : Array Value) : Kp (fun b => b = g) w (w.setRow g cs) :=
  ⟨rfl, rfl, rfl, by simp [World.setRow], fun b _ hb => setRow_other w g b cs (fun e => hb e)⟩
theorem setRow_below {w W : World} {g : Nat} {cs : Array Value} (h : Below w.heap.size w W) (hg : w.heap.size ≤ g) : Below w.heap.size w (W.setRow g cs) := h.trans ((setRow_kp W g cs).below h.size (fun b hb e => by omega))
/-- a slice of orders, wherever it lies. -/
structure Sl (w : World) (q : Option Addr) (c : Nat) (os : List Or) : Prop where
  os' : Osz w q os
  nl : q = none → os.length = 0 ∧ c = 0
  le : os.length ≤ c
  lt : c < 9223372036854775808
  by' : os.length * 56 ≤ 140737488355328
theorem Sl.on {w w' : World} {q : Option Addr} {c : Nat} {os : List Or} (h : Sl w q c os) (hb : Below w.heap.size w w') : Sl w' q c os := ⟨h.os'.on hb, h.nl, h.le, h.lt, h.by'⟩
theorem Sl.len {w : World} {q : Option Addr} {c : Nat} {os : List Or} (h : Sl w q c os) : os.length < 9223372036854775808 := Nat.lt_of_le_of_lt h.le h.lt
theorem own_sl {base m : Nat} {w : World} {p : Option Addr} {c : Nat} {os : List Or} (hm : os.length = m) (h : w.ownsRow base 46 7 (.slice p m c) m (ors os)) (hb : m * 56 ≤ 140737488355328) : Sl w p c os := by
  subst hm
  obtain ⟨a, b, d⟩ := own_osz h
  refine ⟨a, fun e => ?_, b, d, hb⟩
  · obtain ⟨h1, ⟨e1, e2⟩ | ⟨g, c', cur, e1, _⟩⟩ := h
    · obtain ⟨_, h2, h3⟩ := Value.slice.inj e1; exact ⟨h2, h3⟩
    · rw [(Value.slice.inj e1).1] at e; cases e
theorem row6 {w : World} {g : Nat} {t : TypeId} {a0 a1 a2 a3 a4 a5 : Value} (h : w.heap[g]? = some (.cells #[a0, a1, a2, a3, a4, a5] t (0, 0))) : w.cell? ⟨g, 0, none⟩ = some a0 ∧ w.cell? ⟨g, 1, none⟩ = some a1 ∧ w.cell? ⟨g, 2, none⟩ = some a2 ∧ w.cell? ⟨g, 3, none⟩ = some a3 ∧ w.cell? ⟨g, 4, none⟩ = some a4 ∧ w.cell? ⟨g, 5, none⟩ = some a5 :=
  ⟨row_cell h 0, row_cell h 1, row_cell h 2, row_cell h 3, row_cell h 4, row_cell h 5⟩
theorem made0 {w U : World} (t : TypeId) (size : Nat) (h : Below w.heap.size w U) : (U.alloc (.cells #[] t)).ownsRow w.heap.size t size (.slice (some ⟨U.heap.size, 0, none⟩) 0 0) 0 [] := World.ownsRow_made U #[] 0 h.size (by unfold maxLen; omega) (by simp)
theorem copy_any (cap meet high seq : Int) (x1 x2 : Option Addr) (c1 c2 : Nat) (os1 os2 : List Or) (w : World) (h1 : Sl w x1 c1 os1) (h2 : Sl w x2 c2 os2) :
    Calls Tryd.prog 5 #[.agg #[.int .i64 cap, .int .i64 meet, .slice x1 os1.length c1, .slice x2 os2.length c2, .int .u64 high, .int .u64 seq]] w fun e w' => ∃ p1 p2 q1 q2, e = .returned (.agg #[.int .i64 cap, .int .i64 meet, .slice p1 os1.length q1, .slice p2 os2.length q2, .int .u64 high, .int .u64 seq]) ∧ w'.ownsRow w.heap.size 46 7 (.slice p1 os1.length q1) os1.length (ors os1) ∧ w'.ownsRow w.heap.size 46 7 (.slice p2 os2.length q2) os2.length (ors os2) ∧ Below w.heap.size w w' := by
  have hy1 := h1.by'
  have hy2 := h2.by'
  obtain ⟨m1, hm1⟩ : ∃ m, os1.length = m := ⟨_, rfl⟩
  obtain ⟨m2, hm2⟩ : ∃ m, os2.length = m := ⟨_, rfl⟩
  have HM1' := hid hm1
  have HL1 := hid (show x1 = none → m1 = 0 ∧ c1 = 0 from fun e => by have := h1.nl e; rw [hm1] at this; exact this)
  have HM2' := hid hm2
  have HL2 := hid (show x2 = none → m2 = 0 ∧ c2 = 0 from fun e => by have := h2.nl e; rw [hm2] at this; exact this)
  obtain ⟨R, hR⟩ : ∃ R, w.heap.size = R := ⟨_, rfl⟩
  obtain ⟨U0, hU0⟩ : ∃ U0, w.alloc (.cells #[.int .i64 cap, .int .i64 meet, .slice x1 m1 c1, .slice x2 m2 c2, .int .u64 high, .int .u64 seq] 27) = U0 := ⟨_, rfl⟩
  obtain ⟨W1, hW1⟩ : ∃ W1, U0.alloc (.cells #[.int .i64 0, .int .i64 0, .slice none 0 0, .slice none 0 0, .int .u64 0, .int .u64 0] 27) = W1 := ⟨_, rfl⟩
  have hs0 : U0.heap.size = R + 1 := by rw [← hU0, ← hR]; simp
  have hs1 : W1.heap.size = R + 2 := by rw [← hW1]; simp [hs0]
  have hB : W1.heap[R]? = some (.cells #[.int .i64 cap, .int .i64 meet, .slice x1 m1 c1, .slice x2 m2 c2, .int .u64 high, .int .u64 seq] 27 (0, 0)) := by
    rw [← hW1]; exact row_on (by rw [← hU0, ← hR]; exact World.alloc_heap_new _ _) (ball _ _)
  have hZ : W1.heap[R + 1]? = some (.cells #[.int .i64 0, .int .i64 0, .slice none 0 0, .slice none 0 0, .int .u64 0, .int .u64 0] 27 (0, 0)) := by
    rw [← hW1, ← hs0]; exact World.alloc_heap_new _ _
  have HBW := hid (show Below w.heap.size w W1 from by rw [← hW1, ← hU0]; exact btr (ball _ _) (ball _ _))
  have HM1 := hid (made0 46 7 HBW.out)
  have HN1 := hid ((h1.on HBW.out).on (ball W1 (.cells #[] 46)))
  have HB := hid hB
  have HZ := hid hZ
  have HU := hid hU0
  have HW := hid hW1
  have H2 := hid h2
  have HS1 := hid hs1
  have HRR := hid hR
  obtain ⟨b0, b1, b2, b3, b4, b5⟩ := row6 hB
  have fb := row_frz hB 2
  have nR : R ≠ W1.heap.size := by omega
  have hws := HBW.out.size
  have sR : R < W1.heap.size := by omega
  rw [hm1] at hy1 ⊢
  rw [hm2] at hy2 ⊢
  clear hm1 hm2 hU0 hW1 hs0 hB hZ h1 h2 hs1 hR
  go_enter Tryd.func5, Tryd.ntmps5
  go_upto_region 1 with fail
  rw [HU.out, HW.out, HRR.out]
  go_upto_region 2 with (at_builtin; refine wpList_app_osz (by rfl) (.tmp 3) (.tmp 5) (by rfl) w.heap.size _ (by rfl) (HM1.out) x1 c1 os1 m1 HM1'.out (by rfl) HN1.out.os' (HL1.out) (by omega) (by simp; omega) ?_; intro v' w' hown hgrow; obtain ⟨p1, q1, rfl⟩ := own_form hown; have HO1 := hid hown; have HG1 := hid (show Below W1.heap.size W1 w' from (ball _ _).grown hgrow (by simp) (fun j hj => by cases hj; exact Nat.le_refl _)); clear hown hgrow; have hr := row_on HB.out HG1.out; obtain ⟨b0, b1, b2, b3, b4, b5⟩ := row6 hr; have fb := row_frz hr 2; clear hr)
  have hO1 := HO1.out
  have hlt1 : ∀ g, (Value.slice p1 m1 q1).ownBlock = some g → g ≠ R := fun g hg e => by
    obtain ⟨cc, hc⟩ := own_ty hO1 hg
    exact row_ne hc (row_on HB.out HG1.out) (by decide) e
  obtain ⟨W2, hW2⟩ : ∃ W2, w'.setCell ⟨R, 2, none⟩ (.slice p1 m1 q1) = W2 := ⟨_, rfl⟩
  have hk2 : Kp (fun j => j = R) w' W2 := by rw [← hW2]; exact Kp.set _ _ _ _
  have hB2 : W2.heap[R]? = some (.cells #[.int .i64 cap, .int .i64 meet, .slice p1 m1 q1, .slice x2 m2 c2, .int .u64 high, .int .u64 seq] 27 (0, 0)) := by rw [← hW2, set_row _ (row_on HB.out HG1.out)]; rfl
  have hZ2 : W2.heap[R + 1]? = some (.cells #[.int .i64 0, .int .i64 0, .slice none 0 0, .slice none 0 0, .int .u64 0, .int .u64 0] 27 (0, 0)) := hk2.row (row_on HZ.out HG1.out) (by omega)
  have hw1 := btr HBW.out HG1.out
  have HB2 := hid (show Below w.heap.size w W2 from hw1.trans (hk2.below hw1.size (fun b hb e => by have := HRR.out; omega)))
  have HP1 := hid (show W2.ownsRow w.heap.size 46 7 (.slice p1 m1 q1) m1 (ors os1) from own_same hO1 (fun g hg => hk2.obj g (by obtain ⟨cc, hc⟩ := own_ty hO1 hg; exact row_lt hc) (hlt1 g hg)))
  have HM2 := hid (made0 46 7 HB2.out)
  have HN2 := hid ((H2.out.on HB2.out).on (ball W2 (.cells #[] 46)))
  have HR2 := hid hB2
  have HZ2' := hid hZ2
  have sR2 := row_lt hB2
  have hws2 := HB2.out.size
  rw [hW2]
  clear b0 b1 b2 b3 b4 b5 fb hW2 hk2 hO1 hlt1 hw1 nR sR hws HM1 HN1
  obtain ⟨b0, b1, b2, b3, b4, b5⟩ := row6 hB2
  have fb := row_frz hB2 3
  clear hB2 hZ2
  go_upto_region 3 with (at_builtin; refine wpList_app_osz (by rfl) (.tmp 8) (.tmp 10) (by rfl) w.heap.size _ (by rfl) (HM2.out) x2 c2 os2 m2 HM2'.out (by rfl) HN2.out.os' (HL2.out) (by omega) (by simp; omega) ?_; intro v' w'_1 hown hgrow; obtain ⟨p2, q2, rfl⟩ := own_form hown; have HO2 := hid hown; have HG2 := hid (show Below W2.heap.size W2 w'_1 from (ball _ _).grown hgrow (by simp) (fun j hj => by cases hj; exact Nat.le_refl _)); clear hown hgrow; have hr := row_on HR2.out HG2.out; obtain ⟨b0, b1, b2, b3, b4, b5⟩ := row6 hr; have fb := row_frz hr 3; clear hr)
  have hO2 := HO2.out
  have hlt2 : ∀ g, (Value.slice p2 m2 q2).ownBlock = some g → g ≠ R := fun g hg e => by
    obtain ⟨cc, hc⟩ := own_ty hO2 hg
    exact row_ne hc (row_on HR2.out HG2.out) (by decide) e
  obtain ⟨W3, hW3⟩ : ∃ W3, w'_1.setCell ⟨R, 3, none⟩ (.slice p2 m2 q2) = W3 := ⟨_, rfl⟩
  have hk3 : Kp (fun j => j = R) w'_1 W3 := by rw [← hW3]; exact Kp.set _ _ _ _
  have hB3 : W3.heap[R]? = some (.cells #[.int .i64 cap, .int .i64 meet, .slice p1 m1 q1, .slice p2 m2 q2, .int .u64 high, .int .u64 seq] 27 (0, 0)) := by rw [← hW3, set_row _ (row_on HR2.out HG2.out)]; rfl
  have HZ3 := hid (show W3.heap[R + 1]? = some (.cells #[.int .i64 0, .int .i64 0, .slice none 0 0, .slice none 0 0, .int .u64 0, .int .u64 0] 27 (0, 0)) from hk3.row (row_on HZ2'.out HG2.out) (by omega))
  have hw2 := btr HB2.out HG2.out
  have HB3 := hid (show Below w.heap.size w W3 from hw2.trans (hk3.below hw2.size (fun b hb e => by have := HRR.out; omega)))
  have HP2 := hid (show W3.ownsRow w.heap.size 46 7 (.slice p2 m2 q2) m2 (ors os2) from own_same hO2 (fun g hg => hk3.obj g (by obtain ⟨cc, hc⟩ := own_ty hO2 hg; exact row_lt hc) (hlt2 g hg)))
  have HP3 := hid (show W3.ownsRow w.heap.size 46 7 (.slice p1 m1 q1) m1 (ors os1) from own_same (own_on HP1.out HG2.out) (fun g hg => by
    obtain ⟨cc, hc⟩ := own_ty HP1.out hg
    exact hk3.obj g (Nat.lt_of_lt_of_le (row_lt hc) HG2.out.size) (row_ne hc HR2.out (by decide))))
  rw [hW3]
  clear b0 b1 b2 b3 b4 b5 fb hW3 hk3 hO2 hlt2 hw2 sR2 hws2 HM2 HN2
  obtain ⟨b0, b1, b2, b3, b4, b5⟩ := row6 hB3
  clear hB3
  have AI := hid (show (Tryd.prog.info? 27).map (·.size) = some (#[.int .i64 cap, .int .i64 meet, .slice p1 m1 q1, .slice p2 m2 q2, .int .u64 high, .int .u64 seq] : Array Value).size from infoX27)
  have AS := hid (show (#[.int .i64 0, .int .i64 0, .slice none 0 0, .slice none 0 0, .int .u64 0, .int .u64 0] : Array Value).size = (#[.int .i64 cap, .int .i64 meet, .slice p1 m1 q1, .slice p2 m2 q2, .int .u64 high, .int .u64 seq] : Array Value).size from rfl)
  have AA := hid (show (#[.int .i64 cap, .int .i64 meet, .slice p1 m1 q1, .slice p2 m2 q2, .int .u64 high, .int .u64 seq] : Array Value).all (·.oneCell') = true from by simp [Value.oneCell'])
  go_wp2_with (refine wpList_store_row (by rfl) 27 (.tmp 2) (.tmp 13) (by rfl) (R + 1) #[.int .i64 cap, .int .i64 meet, .slice p1 m1 q1, .slice p2 m2 q2, .int .u64 high, .int .u64 seq] (by rfl) (by rfl) 27 _ HZ3.out AI.out AS.out AA.out ?_)
  refine bodyPost_ret (results_cell_row (fn := Tryd.f5) Tryd.results5 _ _ (R + 1) 27 #[.int .i64 cap, .int .i64 meet, .slice p1 m1 q1, .slice p2 m2 q2, .int .u64 high, .int .u64 seq] (0, 0) _ (by rfl) (setRow_heap _ _ _ _ 27 (0, 0) HZ3.out) Tryd.underlying27 rfl infoX27) rfl ⟨p1, p2, q1, q2, rfl, ?_, ?_, ?_⟩
  · exact own_same HP3.out (fun g hg => (setRow_kp W3 (R + 1) _).obj g (by obtain ⟨cc, hc⟩ := own_ty HP3.out hg; exact row_lt hc) (by obtain ⟨cc, hc⟩ := own_ty HP3.out hg; exact row_ne hc HZ3.out (by decide)))
  · exact own_same HP2.out (fun g hg => (setRow_kp W3 (R + 1) _).obj g (by obtain ⟨cc, hc⟩ := own_ty HP2.out hg; exact row_lt hc) (by obtain ⟨cc, hc⟩ := own_ty HP2.out hg; exact row_ne hc HZ3.out (by decide)))
  · exact setRow_below HB3.out (by have := HRR.out; omega)
end Go.Proofs.YtjpkodllemoniaaDoor.Cp
