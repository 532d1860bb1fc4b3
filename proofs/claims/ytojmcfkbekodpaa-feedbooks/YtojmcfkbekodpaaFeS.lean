/-
  What changes of a side's levels.
-/
import Derived.Test.YtojmcfkbekodpaaFeQ
namespace Go.Proofs.Ytojmcfkbekodpaa.Fd
open Go.RowKit Go.Deep
set_option linter.unusedVariables false
set_option linter.unusedSimpArgs false
set_option maxHeartbeats 2000000
set_option maxRecDepth 100000
/-- which comes first. -/
def fof (s : Int) (a b : List Lv) : Int :=
  match b, a with
  | [], _ => -1
  | _ :: _, [] => 1
  | y :: _, x :: _ => od s x.pr y.pr
theorem firstOf_any (s : Int) (p1 p2 : Option Addr) (c1 c2 : Nat) (a b : List Lv) (w : World) (h1 : Rl w p1 c1 a) (h2 : Rl w p2 c2 b) :
    Calls Try.prog 60 #[.int .i64 s, .slice p1 a.length c1, .slice p2 b.length c2] w fun e w' => e = .returned (.int .i64 (fof s a b)) ∧ ∃ n, w' = w.drewN n := by
  cases b with
  | nil =>
    rw [show fof s a [] = -1 by cases a <;> rfl]
    simp only [List.length_nil]
    clear h1 h2
    go_enter Try.func60, Try.ntmps60
    go_wp2
    go_ret
    exact ⟨rfl, 0, rfl⟩
  | cons y b =>
    cases a with
    | nil =>
      obtain ⟨m, hm⟩ : ∃ m, (y :: b).length = m := ⟨_, rfl⟩
      have m0 : ((m : Int) == 0) = false := by simp at hm ⊢; omega
      rw [show fof s [] (y :: b) = 1 from rfl, hm]
      simp only [List.length_nil]
      clear h1 h2 hm
      go_enter Try.func60, Try.ntmps60
      go_wp2
      go_ret
      exact ⟨rfl, 0, rfl⟩
    | cons x a =>
      obtain ⟨g1, o1, rfl, _, a0, _, _⟩ := h1.cells (i := 0) (by simp)
      obtain ⟨g2, o2, rfl, _, b0, _, _⟩ := h2.cells (i := 0) (by simp)
      simp only [List.getElem_cons_zero, Nat.zero_mul, Nat.add_zero] at a0 b0
      obtain ⟨m, hm⟩ : ∃ m, (y :: b).length = m := ⟨_, rfl⟩
      obtain ⟨n, hn⟩ : ∃ n, (x :: a).length = n := ⟨_, rfl⟩
      have m0 : ((m : Int) == 0) = false := by simp at hm ⊢; omega
      have n0 : ((n : Int) == 0) = false := by simp at hn ⊢; omega
      have m1 : (0 : Int) < (m : Int) := by simp at hm; omega
      have n1 : (0 : Int) < (n : Int) := by simp at hn; omega
      rw [show fof s (x :: a) (y :: b) = od s x.pr y.pr from rfl, hm, hn]
      have O := hid (fun (U : World) => order_any s x.pr y.pr U)
      clear h1 h2 hm hn
      go_enter Try.func60, Try.ntmps60
      go_upto_region 5 with fail
      go_quiet ((go_at_call 78; with_reducible exact Calls.quiet_of_same (O.out _)))
      go_wp2
      go_ret
      exact ⟨rfl, _, rfl⟩
theorem dvc_sing (x : Dm) : dvc [x] = (#[.int .u64 x.sq, .int .i64 x.kd, .int .i64 x.sd, .int .i64 x.pr, .int .u64 x.qt, .int .i64 x.ct] : Array Value).toList := by simp [dvc]
theorem tell_any (b T S : Nat) (s : Int) (q : Option Addr) (m d : Nat) (L : List Dm) (x : Lv) (w : World) (hT : w.heap[T]? = some (.cells #[.slice q m d] 39 (0, 0))) (hS : w.heap[S]? = some (.cells #[.int .i64 s] 3 (0, 0))) (hO : w.ownsRow b 47 6 (.slice q m d) m (dvc L)) (hm : m ≤ 1000000) (hb : b ≤ T) (hbs : b ≤ w.heap.size) :
    Calls Try.prog 59 #[.agg #[.int .i64 x.pr, .int .u64 x.qt, .int .i64 x.ct], .pointer (some ⟨T, 0, none⟩), .pointer (some ⟨S, 0, none⟩)] w fun e w' => e = .returned (.tuple #[]) ∧ ∃ q' d', w'.heap[T]? = some (.cells #[.slice q' (m + 1) d'] 39 (0, 0)) ∧ w'.heap[S]? = some (.cells #[.int .i64 s] 3 (0, 0)) ∧ w'.ownsRow b 47 6 (.slice q' (m + 1) d') (m + 1) (dvc (L ++ [tld s x])) ∧ Below b w w' := by
  obtain ⟨W, hW⟩ : ∃ W, w.alloc (.cells #[.int .i64 x.pr, .int .u64 x.qt, .int .i64 x.ct] 71) = W := ⟨_, rfl⟩
  obtain ⟨R, hR⟩ : ∃ R, w.heap.size = R := ⟨_, rfl⟩
  have hb0 : Below w.heap.size w W := by rw [← hW]; exact ball _ _
  have HLX := hid (show W.heap[R]? = some (.cells #[.int .i64 x.pr, .int .u64 x.qt, .int .i64 x.ct] 71 (0, 0)) from by rw [← hW, ← hR]; exact World.alloc_heap_new _ _)
  obtain ⟨W1, hW1⟩ : ∃ W1, W.alloc (.cells #[.int .u64 0, .int .i64 1, .int .i64 s, .int .i64 x.pr, .int .u64 x.qt, .int .i64 x.ct] 47) = W1 := ⟨_, rfl⟩
  have hb1 : Below w.heap.size w W1 := by rw [← hW1]; exact btr hb0 (ball _ _)
  have HT1 := hid (row_on hT hb1)
  have HS1 := hid (row_on hS hb1)
  have HT0 := hid (row_on hT hb0)
  have HS0 := hid (row_on hS hb0)
  have HO1 := hid (own_on hO hb1)
  have HB1 := hid hb1
  have HBS := hid (show b ≤ W1.heap.size from Nat.le_trans hbs hb1.size)
  have HBS0 := hid hbs
  have RN := hid (show ∀ ad, some (⟨W.heap.size, 0, none⟩ : Addr) = some ad → ∀ j u, (dvc [tld s x])[j]? = some u → W1.cell? (ad.add j) = some u from by rw [← hW1]; exact rd_new W (tld s x))
  have HLN := hid (dvc_len [tld s x])
  have HW := hid hW
  have HW1 := hid hW1
  have HR := hid hR
  have HTB := hid hb
  have k1 := row_cell HT0.out 0
  have k2 := row_cell HS0.out 0
  obtain ⟨l0, l1, l2⟩ := row3 HLX.out
  clear hT hS hO hb0 hb1 hW hW1 hR hbs hb
  go_enter Try.func59, Try.ntmps59
  go_upto_region 1 with fail
  rw [HW.out, HR.out]
  go_wp2_with (at_builtin; rw [HW1.out]; refine wpList_app_rd (by rfl) (.tmp 4) (.tmp 13) 39 47 _ 6 48 (by rfl) Try.underlying39 infoD6 rfl (by decide) b _ m (dvc L) (by rfl) HO1.out (some ⟨W.heap.size, 0, none⟩) 1 1 (dvc [tld s x]) (by rfl) (fun e => by cases e) HLN.out RN.out (dvc_one _) (by unfold maxLen; omega) (by omega) HBS.out ?_; intro v' w' hown hgrow; obtain ⟨p1, q1, rfl⟩ := own_form hown; have HO2 := hid hown; have HG := hid hgrow; have HTT := hid (show w'.heap[T]? = some (.cells #[.slice q m d] 39 (0, 0)) from (hgrow.block T (row_lt HT1.out) (by intro e; obtain ⟨cc, ec⟩ := own_ty HO1.out e.symm; exact absurd rfl (row_ne ec HT1.out (by decide)))).trans HT1.out); have HSS := hid (show w'.heap[S]? = some (.cells #[.int .i64 s] 3 (0, 0)) from (hgrow.block S (row_lt HS1.out) (by intro e; obtain ⟨cc, ec⟩ := own_ty HO1.out e.symm; exact absurd rfl (row_ne ec HS1.out (by decide)))).trans HS1.out); have c1 := row_cell HTT.out 0; have c2 := row_frz HTT.out 0; clear hown hgrow)
  go_end0
  refine ⟨rfl, p1, q1, ?_, ?_, ?_, ?_⟩
  · exact set_row _ HTT.out
  · exact set_oth _ HSS.out (row_ne HSS.out HTT.out (by decide))
  · rw [dvc_app]
    refine own_same HO2.out (fun g hg => heap_setCell_other _ _ _ _ ?_)
    obtain ⟨cc, ec⟩ := own_ty HO2.out hg
    exact row_ne ec HTT.out (by decide)
  · refine Below.trans (b := w') ?_ ((Kp.set w' T 0 _).below ?_ (fun g hg e => by have := HTB.out; omega))
    · have a : Below b w W1 := HB1.out.mono HBS0.out
      exact a.grown HG.out HBS.out (fun j hj => by
        obtain ⟨_, ⟨e, _⟩ | ⟨g, c, cur, e, r1, _⟩⟩ := HO1.out
        · rw [e] at hj; cases hj
        · rw [e] at hj; cases hj; exact r1)
    · have := HG.out.size; have := HBS.out; omega
end Go.Proofs.Ytojmcfkbekodpaa.Fd
