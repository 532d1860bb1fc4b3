/-
  ClearingBears, walked.
-/
import Derived.Test.YtkmlhchkidddmaaBrC
namespace Go.Proofs.Ytkmlhchkidddmaa.Ss
open Go.RowKit Go.Deep BigM
set_option linter.unusedVariables false
set_option linter.unusedSimpArgs false
set_option maxHeartbeats 8000000
set_option maxRecDepth 100000
attribute [local go_sem ↓] Go.wp_at_zero Go.wp_at_succ
theorem infoF : (Try.prog.info? 32).map (fun i => (i.zero, i.size, i.bytes)) = some (some (.agg #[.int .u32 0, .int .u64 0]), 2, 16) := by kernel_rfl
def fcs : List Fd → List Value
  | [] => []
  | x :: r => .int .u32 x.mb :: .int .u64 x.ct :: fcs r
theorem fcs_len (l : List Fd) : (fcs l).length = l.length * 2 := by
  induction l with
  | nil => rfl
  | cons x r ih => simp only [fcs, List.length_cons, ih]; omega
theorem fcs_at (l : List Fd) : ∀ i (h : i < l.length), (fcs l)[i * 2]? = some (.int .u32 l[i].mb) ∧ (fcs l)[i * 2 + 1]? = some (.int .u64 l[i].ct) := by
  induction l with
  | nil => intro i h; simp at h
  | cons x r ih =>
    intro i h
    cases i with
    | zero => exact ⟨rfl, rfl⟩
    | succ i =>
      have := ih i (by simpa using h)
      rw [show (i + 1) * 2 = i * 2 + 1 + 1 by omega]
      simp only [fcs, List.getElem?_cons_succ, List.getElem_cons_succ]
      exact this
theorem fcs_one (l : List Fd) : ∀ u ∈ fcs l, u.oneCell' = true := by
  induction l with
  | nil => intro u h; cases h
  | cons x r ih =>
    intro u h
    simp only [fcs, List.mem_cons] at h
    rcases h with rfl | rfl | h
    · rfl
    · rfl
    · exact ih u h
theorem fz_add {w : World} {q : Option Addr} {l : List Fd} (h : Fz w q l) : ∀ ad, q = some ad → ∀ j u, (fcs l)[j]? = some u → w.cell? (ad.add j) = some u := fun ad e j u hj => by
  have hl := (List.getElem?_eq_some_iff.1 hj).1
  rw [fcs_len] at hl
  have hi : j / 2 < l.length := by omega
  obtain ⟨b, off, e2, hb, c1, c2⟩ := h (j / 2) hi
  rw [e] at e2
  injection e2 with e2
  subst e2
  obtain ⟨f1, f2⟩ := fcs_at l (j / 2) hi
  rw [Addr.add_lit]
  by_cases p : j % 2 = 0
  · have ej : j / 2 * 2 = j := by omega
    rw [ej] at f1 c1
    rw [hj] at f1
    rw [c1, f1]
  · have ej : j / 2 * 2 + 1 = j := by omega
    rw [ej] at f2
    rw [Nat.add_assoc, ej] at c2
    rw [hj] at f2
    rw [c2, f2]
theorem fz_own {base : Nat} {w : World} {q : Option Addr} {n c : Nat} {l : List Fd} (hn : l.length = n) (h : w.ownsRow base 32 2 (.slice q n c) n (fcs l)) : Fz w q l := fun i hi => by
  obtain ⟨h1, ⟨e', e2⟩ | ⟨g, c', cur, e', r1, r2, r3, r4, r5, r6⟩⟩ := id h
  · omega
  · obtain ⟨rfl, _, rfl⟩ := Value.slice.inj e'
    obtain ⟨f1, f2⟩ := fcs_at l i hi
    have a1 := (own_cells h).2 _ _ f1
    have a2 := (own_cells h).2 _ _ f2
    rw [Addr.add_lit] at a1 a2
    exact ⟨g, 0, rfl, row_lt r2, a1, a2⟩
theorem own_empty32 (w : World) : (w.alloc (.cells #[] 32)).ownsRow w.heap.size 32 2 (.slice (some ⟨w.heap.size, 0, none⟩) 0 0) 0 [] :=
  ⟨rfl, .inr ⟨w.heap.size, 0, #[], rfl, Nat.le_refl _, World.alloc_heap_new _ _, Nat.le_refl _, Nat.zero_le _, rfl, rfl⟩⟩
theorem own_z2 {base n : Nat} {w : World} {v : Value} {xs : List Value} (h : w.ownsRow base 32 2 v (0 + n) ([] ++ xs)) : w.ownsRow base 32 2 v n xs := by simpa using h
theorem eqF_nil (d : Nat) (xs ys : Array Value) (w : World) : (Op.eqFields d xs ys []).run Try.prog w = .ok true w := by simp [Op.eqFields]
theorem eqF_any (d : Nat) (xs ys : Array Value) (f : Field) (fs : List Field) (u v : Value) (c : Bool) {r : Bool} {w : World} (hn : f.name ≠ "_") (hx : (part f.type xs f.offset).run Try.prog w = .ok u w) (hy : (part f.type ys f.offset).run Try.prog w = .ok v w)
    (hq : (Op.equalIn d f.type u v).run Try.prog w = .ok c w) (hr : (Op.eqFields d xs ys fs).run Try.prog w = .ok r w) : (Op.eqFields d xs ys (f :: fs)).run Try.prog w = .ok (c && r) w := by
  simp only [Op.eqFields, if_pos hn, Sem.run_bind, hx, hy, hq, Result.andThen_ok, Sem.run_ite]
  cases c
  · simp
  · simp [hr]
theorem eqF_cons (d : Nat) (xs ys : Array Value) (f : Field) (fs : List Field) (k k' : IntKind) (a b : Int) {r : Bool} {w : World} (hn : f.name ≠ "_") (hx : (part f.type xs f.offset).run Try.prog w = .ok (.int k a) w) (hy : (part f.type ys f.offset).run Try.prog w = .ok (.int k b) w)
    (hu : Try.prog.underlying f.type = some (.int k')) (hr : (Op.eqFields (d + 1) xs ys fs).run Try.prog w = .ok r w) : (Op.eqFields (d + 1) xs ys (f :: fs)).run Try.prog w = .ok ((a == b) && r) w :=
  eqF_any (d + 1) xs ys f fs _ _ (a == b) hn hx hy (run_equalIn_int w d f.type k k' a b hu) hr
theorem part_int (t : TypeId) (xs : Array Value) (o : Nat) (v : Value) (ha : ∀ w, (isAgg t).run Try.prog w = .ok false w) (h : xs[o]? = some v) (w : World) : (part t xs o).run Try.prog w = .ok v w := by
  simp [part, Sem.run_bind, ha, h]
theorem under32 : Try.prog.underlying 32 = some (.struct (Try.prog.fieldsOf 32)) := by kernel_rfl
theorem stood32 : Try.prog.stoodInHeld 32 = false := by kernel_rfl
theorem eqFd (m c : Int) (w : World) : (Op.equalIn 10000 32 (.agg #[.int .u32 m, .int .u64 c]) (.agg #[.int .u32 m, .int .u64 c])).run Try.prog w = .ok true w := by
  have h : (Op.equalIn 10000 32 (.agg #[.int .u32 m, .int .u64 c]) (.agg #[.int .u32 m, .int .u64 c])).run Try.prog w = .ok ((m == m) && ((c == c) && true)) w := by
    rw [show (10000 : Nat) = 9999 + 1 from rfl, run_equalIn_struct w 9999 32 _ _ under32 stood32]
    simp only [Program.fieldsOf, Try.underlying32]
    exact eqF_cons _ _ _ _ _ .u32 .u32 _ _ (by decide) (part_int 30 _ _ _ Try.isAgg30 rfl _) (part_int 30 _ _ _ Try.isAgg30 rfl _) Try.underlying30 (eqF_cons _ _ _ _ _ .u64 .u64 _ _ (by decide) (part_int 22 _ _ _ Try.isAgg22 rfl _) (part_int 22 _ _ _ Try.isAgg22 rfl _) Try.underlying22 (eqF_nil _ _ _ _))
  rw [h]
  simp
theorem bears_any (A B H : Int) (fs : List Fd) (q : Option Addr) (cap : Nat) (w : World) (hA : Word A) (hB : Word B) (hH : Word H) (hf : ∀ x ∈ fs, Word x.ct) (hn : fs.length ≤ 1048576) (hq : q = none → cap = 0) (hr : Fz w q fs) :
    Calls Try.prog 3 #[.int .u64 A, .int .u64 B, .int .u64 H, .slice q fs.length cap] w fun e w' => e = .returned (.bool true) ∧ Below w.heap.size w w' := by
  obtain ⟨n, hnn⟩ : ∃ n, fs.length = n := ⟨_, rfl⟩
  have HN := hid hnn
  have HQ := hid (show q = none → n = 0 ∧ cap = 0 from fun e => by
    refine ⟨?_, hq e⟩
    apply Classical.byContradiction
    intro h9
    obtain ⟨b, off, e2, _⟩ := hr 0 (by omega)
    rw [e] at e2
    cases e2)
  have HR := hid hr
  have CP := hid (fun U p d (h : Fz U p fs) => bear_any A B H fs n p d U hA hB hH hf hnn (by omega) h)
  have CR := hid (fun U (h : Below w.heap.size w U) (hk : ∃ er o h l lf, CvR A B H (cts fs) er o h l lf) => refBear_any A B H fs n q cap U hA hB hH hf hnn (by omega) (hr.on h) hk)
  rw [hnn] at hn ⊢
  have HLW := hid (show (fcs fs).length = n * 2 from by rw [fcs_len, hnn])
  clear hA hB hH hf hr hq hnn
  obtain ⟨W1, hW1⟩ : ∃ W, w.alloc (.cells #[] 32) = W := ⟨_, rfl⟩
  have B1 := hid (show Below w.heap.size w W1 from by rw [← hW1]; exact ball _ _)
  have O1 := hid (show W1.ownsRow w.heap.size 32 2 (.slice (some ⟨w.heap.size, 0, none⟩) 0 0) 0 [] from by rw [← hW1]; exact own_empty32 w)
  have R1 := hid (fz_add (HR.out.on B1.out))
  go_enter Try.func3, Try.ntmps3
  go_upto_region 2 with (at_builtin; refine wpList_app_rd (by rfl) (.tmp 15) (.tmp 16) 23 32 _ 2 16 (by rfl) Try.underlying23 infoF rfl (by decide) w.heap.size _ 0 [] (by rfl) O1.out q cap n (fcs fs) (by rfl) HQ.out HLW.out R1.out (fcs_one _) (by unfold maxLen; omega) (by omega) B1.out.size ?_; intro v2 w2 hown hgrow; have O2 := hid (own_z2 hown); have B2 := hid (show Below w.heap.size w w2 from B1.out.grown hgrow B1.out.size (own_ge O1.out)); obtain ⟨q2, d2, rfl⟩ := own_form O2.out; clear hown hgrow)
  have F2 := hid (fz_own HN.out O2.out)
  clear hW1 B1 O1 R1 HLW HQ
  go_upto_region 3 with (go_at_call 4; with_reducible refine (CP.out _ _ _ F2.out).mono ?_; rintro e w3 ⟨er, o, h, lf, p, l, rfl, h1, h2, h3⟩; have K3 := hid h1; have U3 := hid h2; have B3 := hid h3; clear h1 h2 h3)
  have LL := hid (show l.length ≤ n from by have := K3.out.len; rw [cts_len, HN.out] at this; exact this)
  obtain ⟨m, hm⟩ : ∃ m, l.length = m := ⟨_, rfl⟩
  have HM := hid hm
  rw [hm] at LL ⊢
  obtain ⟨W4, hW4⟩ : ∃ W, w3.alloc (.cells #[.int .u64 o, .int .u64 h, .slice p m m, .int .u64 lf] 26) = W := ⟨_, rfl⟩
  have b4 : Below w3.heap.size w3 W4 := by rw [← hW4]; exact ball _ _
  have r4 : W4.heap[w3.heap.size]? = some (.cells (cvr o h (.slice p m m) lf) 26 (0, 0)) := by rw [← hW4]; exact World.alloc_heap_new _ _
  obtain ⟨g4, hg4⟩ : ∃ g, w3.heap.size = g := ⟨_, rfl⟩
  have B24 := hid (btr B3.out b4)
  have B4 := hid (btr B2.out B24.out)
  have R4 := hid r4
  have U4 := hid (U3.out.on b4)
  have C5 := hid (CR.out W4 B4.out ⟨er, o, h, l, lf, K3.out⟩)
  rw [hg4] at R4
  clear b4 r4 CP CR U3 B3 hm
  go_upto_region 4 with (go_at_call 5; with_reducible refine C5.out.mono ?_; rintro e w5 ⟨er', o', h', lf', p5, c5, l', rfl, h1, h2, h3⟩; have K5 := hid h1; have U5 := hid h2; have B5 := hid h3; clear h1 h2 h3)
  obtain ⟨e1, e2, e3, e4, e5⟩ := K3.out.uniq K5.out
  subst e1 e2 e3 e4 e5
  rw [HM.out]
  obtain ⟨W6, hW6⟩ : ∃ W, w5.alloc (.cells #[.int .u64 o, .int .u64 h, .slice p5 m c5, .int .u64 lf] 26) = W := ⟨_, rfl⟩
  have b6 : Below w5.heap.size w5 W6 := by rw [← hW6]; exact ball _ _
  have r6 : W6.heap[w5.heap.size]? = some (.cells (cvr o h (.slice p5 m c5) lf) 26 (0, 0)) := by rw [← hW6]; exact World.alloc_heap_new _ _
  obtain ⟨g6, hg6⟩ : ∃ g, w5.heap.size = g := ⟨_, rfl⟩
  have R6 := hid r6
  rw [hg6] at R6
  have R46 := hid (row_on (row_on R4.out B5.out) b6)
  have U46 := hid ((U4.out.on B5.out).on b6)
  have U6 := hid (U5.out.on b6)
  have B46 := hid (btr B5.out b6)
  have B6 := hid (btr B4.out B46.out)
  have F6 := hid ((F2.out.on B24.out).on B46.out)
  have Q6 := hid (HR.out.on B6.out)
  clear b6 r6 R4 U4 U5 B5 B46 B24 B4 K5 O2 F2 B2 C5 HR hg4
  rw [hW6, hg6]
  clear hW6 hg6 hW4
  go_upto_region 5 with fail
  have B0 := hid (Below.refl W6.heap.size W6)
  go_loopw [14] (fun iv wr => ∃ i, i ≤ n ∧ iv = .int .i64 (i : Nat) ∧ Hid (Below W6.heap.size W6 wr)) (fun iv _ => n - (intOf iv).toNat)
  case atStart => exact ⟨0, Nat.zero_le _, rfl, B0⟩
  case round =>
    obtain ⟨i, hin, rfl, BW⟩ := hrel
    clear B0
    by_cases hlt : i < n
    · have hi : i < fs.length := by rw [HN.out]; exact hlt
      obtain ⟨b, off, rfl, hb, k1, k2⟩ := (F6.out.on BW.out) i hi
      obtain ⟨b', off', rfl, hb', k3, k4⟩ := (Q6.out.on BW.out) i hi
      obtain ⟨mm, hmm⟩ : ∃ m, (fs[i]'hi).mb = m := ⟨_, rfl⟩
      obtain ⟨cc, hcc⟩ : ∃ m, (fs[i]'hi).ct = m := ⟨_, rfl⟩
      rw [hmm] at k1 k3
      rw [hcc] at k2 k4
      have ee := eqFd mm cc
      have i0 : (0 : Int) ≤ (i : Int) := by omega
      have i1 : (i : Int) < (n : Int) := by omega
      have wi : IntKind.i64.wrap ((i : Int) + 1) = ((i + 1 : Nat) : Int) := by rw [IntKind.wrap_i64]; omega
      have HLT := hid hlt
      clear hb hb' hmm hcc hi
      go_upto_region 7 with fail
      go_big_quiet (fail)
      have BQ := hid (show ∀ k, Below W6.heap.size W6 (wr.drewN k) from fun k => below_drewN BW.out k)
      go_wp2
      go_roundw
      case rel => exact ⟨i + 1, HLT.out, by go_num, hid (BQ.out _)⟩
      case measure => have := HLT.out; simp [intOf]; omega
    · obtain rfl : n = i := by omega
      have RA := hid (row_on R46.out BW.out)
      have RB := hid (row_on R6.out BW.out)
      have CV := hid (cover_any o h lf l m p p5 m c5 wr HM.out (by have := LL.out; omega) (fun h0 => (U46.out.rq.on BW.out) h0) (U6.out.on BW.out))
      have BX := hid (btr B6.out BW.out)
      have a0 : wr.cell? ⟨g4, 0, none⟩ = some (.int .u64 o) := row_cell RA.out 0
      have a1 : wr.cell? ⟨g4, 1, none⟩ = some (.int .u64 h) := row_cell RA.out 1
      have a2 : wr.cell? ⟨g4, 2, none⟩ = some (.slice p m m) := row_cell RA.out 2
      have a3 : wr.cell? ⟨g4, 3, none⟩ = some (.int .u64 lf) := row_cell RA.out 3
      have d0 : wr.cell? ⟨g6, 0, none⟩ = some (.int .u64 o) := row_cell RB.out 0
      have d1 : wr.cell? ⟨g6, 1, none⟩ = some (.int .u64 h) := row_cell RB.out 1
      have d2 : wr.cell? ⟨g6, 2, none⟩ = some (.slice p5 m c5) := row_cell RB.out 2
      have d3 : wr.cell? ⟨g6, 3, none⟩ = some (.int .u64 lf) := row_cell RB.out 3
      have x0 : (er == er) = true := by simp
      clear RA RB U46 U6 R46 R6 F6 Q6 BW K3
      go_wp2_with (go_at_call 6; with_reducible refine CV.out.mono ?_; rintro e w9 ⟨rfl, h1⟩; have H9 := hid h1; clear h1)
      go_ret
      exact ⟨rfl, btr BX.out H9.out⟩
end Go.Proofs.Ytkmlhchkidddmaa.Ss
