/-
  What changes of a side's levels.
-/
import Derived.Test.YtojmcfkbekodpaaKz
namespace Go.Proofs.Ytojmcfkbekodpaa.Fd
open Go.RowKit Go.Deep
set_option linter.unusedVariables false
set_option linter.unusedSimpArgs false
set_option maxHeartbeats 2000000
set_option maxRecDepth 100000
/-- which comes first. -/
def fof (s : Int) (a b : List Lv) : Int :=
  match b, a with
  | [], _ => -1
  | _ :: _, [] => 1
  | y :: _, x :: _ => od s x.pr y.pr
theorem firstOf_any (s : Int) (p1 p2 : Option Addr) (c1 c2 : Nat) (a b : List Lv) (w : World) (h1 : Rl w p1 c1 a) (h2 : Rl w p2 c2 b) :
    Calls Try.prog 60 #[.int .i64 s, .slice p1 a.length c1, .slice p2 b.length c2] w fun e w' => e = .returned (.int .i64 (fof s a b)) ∧ ∃ n, w' = w.drewN n := by
  cases b with
  | nil =>
    rw [show fof s a [] = -1 by cases a <;> rfl]
    simp only [List.length_nil]
    clear h1 h2
    go_enter Try.func60, Try.ntmps60
    go_wp2
    go_ret
    exact ⟨rfl, 0, rfl⟩
  | cons y b =>
    cases a with
    | nil =>
      obtain ⟨m, hm⟩ : ∃ m, (y :: b).length = m := ⟨_, rfl⟩
      have m0 : ((m : Int) == 0) = false := by simp at hm ⊢; omega
      rw [show fof s [] (y :: b) = 1 from rfl, hm]
      simp only [List.length_nil]
      clear h1 h2 hm
      go_enter Try.func60, Try.ntmps60
      go_wp2
      go_ret
      exact ⟨rfl, 0, rfl⟩
    | cons x a =>
      obtain ⟨g1, o1, rfl, _, a0, _, _⟩ := h1.cells (i := 0) (by simp)
      obtain ⟨g2, o2, rfl, _, b0, _, _⟩ := h2.cells (i := 0) (by simp)
      simp only [List.getElem_cons_zero, Nat.zero_mul, Nat.add_zero] at a0 b0
      obtain ⟨m, hm⟩ : ∃ m, (y :: b).length = m := ⟨_, rfl⟩
      obtain ⟨n, hn⟩ : ∃ n, (x :: a).length = n := ⟨_, rfl⟩
      have m0 : ((m : Int) == 0) = false := by simp at hm ⊢; omega
      have n0 : ((n : Int) == 0) = false := by simp at hn ⊢; omega
      have m1 : (0 : Int) < (m : Int) := by simp at hm; omega
      have n1 : (0 : Int) < (n : Int) := by simp at hn; omega
      rw [show fof s (x :: a) (y :: b) = od s x.pr y.pr from rfl, hm, hn]
      have O := hid (fun (U : World) => order_any s x.pr y.pr U)
      clear h1 h2 hm hn
      go_enter Try.func60, Try.ntmps60
      go_upto_region 5 with fail
      go_quiet ((go_at_call 78; with_reducible exact Calls.quiet_of_same (O.out _)))
      go_wp2
      go_ret
      exact ⟨rfl, _, rfl⟩
theorem dvc_sing (x : Dm) : dvc [x] = (#[.int .u64 x.sq, .int .i64 x.kd, .int .i64 x.sd, .int .i64 x.pr, .int .u64 x.qt, .int .i64 x.ct] : Array Value).toList := by simp [dvc]
theorem tell_any (b T S : Nat) (s : Int) (q : Option Addr) (m d : Nat) (L : List Dm) (x : Lv) (w : World) (hT : w.heap[T]? = some (.cells #[.slice q m d] 39 (0, 0))) (hS : w.heap[S]? = some (.cells #[.int .i64 s] 3 (0, 0))) (hO : w.ownsRow b 47 6 (.slice q m d) m (dvc L)) (hm : m ≤ 1000000) (hb : b ≤ T) (hbs : b ≤ w.heap.size) :
    Calls Try.prog 59 #[.agg #[.int .i64 x.pr, .int .u64 x.qt, .int .i64 x.ct], .pointer (some ⟨T, 0, none⟩), .pointer (some ⟨S, 0, none⟩)] w fun e w' => e = .returned (.tuple #[]) ∧ ∃ q' d', w'.heap[T]? = some (.cells #[.slice q' (m + 1) d'] 39 (0, 0)) ∧ w'.heap[S]? = some (.cells #[.int .i64 s] 3 (0, 0)) ∧ w'.ownsRow b 47 6 (.slice q' (m + 1) d') (m + 1) (dvc (L ++ [tld s x])) ∧ Below b w w' := by
  obtain ⟨W, hW⟩ : ∃ W, w.alloc (.cells #[.int .i64 x.pr, .int .u64 x.qt, .int .i64 x.ct] 71) = W := ⟨_, rfl⟩
  obtain ⟨R, hR⟩ : ∃ R, w.heap.size = R := ⟨_, rfl⟩
  have hb0 : Below w.heap.size w W := by rw [← hW]; exact ball _ _
  have HLX := hid (show W.heap[R]? = some (.cells #[.int .i64 x.pr, .int .u64 x.qt, .int .i64 x.ct] 71 (0, 0)) from by rw [← hW, ← hR]; exact World.alloc_heap_new _ _)
  obtain ⟨W1, hW1⟩ : ∃ W1, W.alloc (.cells #[.int .u64 0, .int .i64 1, .int .i64 s, .int .i64 x.pr, .int .u64 x.qt, .int .i64 x.ct] 47) = W1 := ⟨_, rfl⟩
  have hb1 : Below w.heap.size w W1 := by rw [← hW1]; exact btr hb0 (ball _ _)
  have HT1 := hid (row_on hT hb1)
  have HS1 := hid (row_on hS hb1)
  have HT0 := hid (row_on hT hb0)
  have HS0 := hid (row_on hS hb0)
  have HO1 := hid (own_on hO hb1)
  have HB1 := hid hb1
  have HBS := hid (show b ≤ W1.heap.size from Nat.le_trans hbs hb1.size)
  have HBS0 := hid hbs
  have RN := hid (show ∀ ad, some (⟨W.heap.size, 0, none⟩ : Addr) = some ad → ∀ j u, (dvc [tld s x])[j]? = some u → W1.cell? (ad.add j) = some u from by rw [← hW1]; exact rd_new W (tld s x))
  have HLN := hid (dvc_len [tld s x])
  have HW := hid hW
  have HW1 := hid hW1
  have HR := hid hR
  have HTB := hid hb
  have k1 := row_cell HT0.out 0
  have k2 := row_cell HS0.out 0
  obtain ⟨l0, l1, l2⟩ := row3 HLX.out
  clear hT hS hO hb0 hb1 hW hW1 hR hbs hb
  go_enter Try.func59, Try.ntmps59
  go_upto_region 1 with fail
  rw [HW.out, HR.out]
  go_wp2_with (at_builtin; rw [HW1.out]; refine wpList_app_rd (by rfl) (.tmp 4) (.tmp 13) 39 47 _ 6 48 (by rfl) Try.underlying39 infoD6 rfl (by decide) b _ m (dvc L) (by rfl) HO1.out (some ⟨W.heap.size, 0, none⟩) 1 1 (dvc [tld s x]) (by rfl) (fun e => by cases e) HLN.out RN.out (dvc_one _) (by unfold maxLen; omega) (by omega) HBS.out ?_; intro v' w' hown hgrow; obtain ⟨p1, q1, rfl⟩ := own_form hown; have HO2 := hid hown; have HG := hid hgrow; have HTT := hid (show w'.heap[T]? = some (.cells #[.slice q m d] 39 (0, 0)) from (hgrow.block T (row_lt HT1.out) (by intro e; obtain ⟨cc, ec⟩ := own_ty HO1.out e.symm; exact absurd rfl (row_ne ec HT1.out (by decide)))).trans HT1.out); have HSS := hid (show w'.heap[S]? = some (.cells #[.int .i64 s] 3 (0, 0)) from (hgrow.block S (row_lt HS1.out) (by intro e; obtain ⟨cc, ec⟩ := own_ty HO1.out e.symm; exact absurd rfl (row_ne ec HS1.out (by decide)))).trans HS1.out); have c1 := row_cell HTT.out 0; have c2 := row_frz HTT.out 0; clear hown hgrow)
  go_end0
  refine ⟨rfl, p1, q1, ?_, ?_, ?_, ?_⟩
  · exact set_row _ HTT.out
  · exact set_oth _ HSS.out (row_ne HSS.out HTT.out (by decide))
  · rw [dvc_app]
    refine own_same HO2.out (fun g hg => heap_setCell_other _ _ _ _ ?_)
    obtain ⟨cc, ec⟩ := own_ty HO2.out hg
    exact row_ne ec HTT.out (by decide)
  · refine Below.trans (b := w') ?_ ((Kp.set w' T 0 _).below ?_ (fun g hg e => by have := HTB.out; omega))
    · have a : Below b w W1 := HB1.out.mono HBS0.out
      exact a.grown HG.out HBS.out (fun j hj => by
        obtain ⟨_, ⟨e, _⟩ | ⟨g, c, cur, e, r1, _⟩⟩ := HO1.out
        · rw [e] at hj; cases hj
        · rw [e] at hj; cases hj; exact r1)
    · have := HG.out.size; have := HBS.out; omega
end Go.Proofs.Ytojmcfkbekodpaa.Fd
namespace Go.Proofs.Ytojmcfkbekodpaa.Fd
open Go.RowKit Go.Deep
set_option linter.unusedVariables false
set_option linter.unusedSimpArgs false
set_option maxHeartbeats 4000000
set_option maxRecDepth 100000
def lenOf : Value → Nat
  | .slice _ n _ => n
  | _ => 0
theorem Rl.tail {w : World} {g o c : Nat} {x : Lv} {l : List Lv} (h : Rl w (Option.some ⟨g, o, none⟩) c (x :: l)) : Rl w (if c = 1 then Option.some ⟨g, o, none⟩ else Option.some ⟨g, o + 3, none⟩) (c - 1) l := by
  have hc := h.cap
  have hm := h.max
  simp only [List.length_cons] at hc
  refine ⟨(fun e => by split at e <;> exact nomatch e), by omega, by omega, fun ad e j u hj => ?_⟩
  split at e
  · have := (List.getElem?_eq_some_iff.1 hj).1
    rw [lvc_len] at this
    omega
  · injection e with e
    subst e
    have := h.get _ rfl (j + 3) u (by rw [lvc_cons]; exact hj)
    rw [Addr.add_mid] at this ⊢
    rw [show o + 3 + j = o + (j + 3) by omega]
    exact this
/-- what stands at the loop's head. -/
structure Cg (w : World) (s : Int) (A B : List Lv) (S T : Nat) (wr : World) (p1 : Option Addr) (c1 : Nat) (a : List Lv) (p2 : Option Addr) (c2 : Nat) (b : List Lv) (q : Option Addr) (m d : Nat) (L : List Dm) : Prop where
  r1 : Rl wr p1 c1 a
  r2 : Rl wr p2 c2 b
  xt : wr.heap[T]? = some (.cells #[.slice q m d] 39 (0, 0))
  xs : wr.heap[S]? = some (.cells #[.int .i64 s] 3 (0, 0))
  xo : wr.ownsRow w.heap.size 47 6 (.slice q m d) m (dvc L)
  xm : m = L.length
  xe : L ++ chg s a b = chg s A B
  xb : Below w.heap.size w wr
  g1 : ∀ g o, p1 = some ⟨g, o, none⟩ → 0 < a.length → g < w.heap.size
  g2 : ∀ g o, p2 = some ⟨g, o, none⟩ → 0 < b.length → g < w.heap.size
theorem Rl.low {w w' : World} {p : Option Addr} {c : Nat} {l : List Lv} {B : Nat} (h : Rl w p c l) (hg : ∀ g o, p = Option.some ⟨g, o, none⟩ → 0 < l.length → g < B) (hb : Below B w w') : Rl w' p c l := by
  by_cases hl : 0 < l.length
  · exact h.same (fun g o e _ => hb.block g (hg g o e hl))
  · have e : l = [] := List.length_eq_zero_iff.1 (by omega)
    subst e
    exact ⟨h.nil, h.cap, h.max, fun ad _ j u hj => by simp [lvc] at hj⟩
theorem Cg.next {w : World} {s : Int} {A B : List Lv} {S T : Nat} {wr : World} {p1 : Option Addr} {c1 : Nat} {a : List Lv} {p2 : Option Addr} {c2 : Nat} {b : List Lv} {q : Option Addr} {m d : Nat} {L : List Dm} (h : Cg w s A B S T wr p1 c1 a p2 c2 b q m d L)
    {n : Nat} {w2 : World} {q' : Option Addr} {d' : Nat} {z : Dm} (ht : w2.heap[T]? = some (.cells #[.slice q' (m + 1) d'] 39 (0, 0))) (hs : w2.heap[S]? = some (.cells #[.int .i64 s] 3 (0, 0))) (ho : w2.ownsRow w.heap.size 47 6 (.slice q' (m + 1) d') (m + 1) (dvc (L ++ [z]))) (hb : Below w.heap.size (wr.drewN n) w2)
    {p1' : Option Addr} {c1' : Nat} {a' : List Lv} {p2' : Option Addr} {c2' : Nat} {b' : List Lv} (r1 : Rl wr p1' c1' a') (r2 : Rl wr p2' c2' b') (g1 : ∀ g o, p1' = some ⟨g, o, none⟩ → 0 < a'.length → g < w.heap.size) (g2 : ∀ g o, p2' = some ⟨g, o, none⟩ → 0 < b'.length → g < w.heap.size) (he : chg s a b = z :: chg s a' b') : Cg w s A B S T w2 p1' c1' a' p2' c2' b' q' (m + 1) d' (L ++ [z]) := by
  have hB : Below w.heap.size wr w2 := ((bdrew wr n).mono h.xb.size).trans hb
  refine ⟨r1.low g1 hB, r2.low g2 hB, ht, hs, ho, by rw [List.length_append, ← h.xm]; rfl, ?_, h.xb.trans hB, g1, g2⟩
  rw [← h.xe, he]; simp
theorem Cg.skip {w : World} {s : Int} {A B : List Lv} {S T : Nat} {wr : World} {p1 : Option Addr} {c1 : Nat} {a : List Lv} {p2 : Option Addr} {c2 : Nat} {b : List Lv} {q : Option Addr} {m d : Nat} {L : List Dm} (h : Cg w s A B S T wr p1 c1 a p2 c2 b q m d L)
    {w2 : World} (hb : Below wr.heap.size wr w2)
    {p1' : Option Addr} {c1' : Nat} {a' : List Lv} {p2' : Option Addr} {c2' : Nat} {b' : List Lv} (r1 : Rl wr p1' c1' a') (r2 : Rl wr p2' c2' b') (g1 : ∀ g o, p1' = some ⟨g, o, none⟩ → 0 < a'.length → g < w.heap.size) (g2 : ∀ g o, p2' = some ⟨g, o, none⟩ → 0 < b'.length → g < w.heap.size) (he : chg s a b = chg s a' b') : Cg w s A B S T w2 p1' c1' a' p2' c2' b' q m d L :=
  ⟨r1.on hb, r2.on hb, row_on h.xt hb, row_on h.xs hb, own_on h.xo hb, h.xm, by rw [← h.xe, he], btr h.xb hb, g1, g2⟩
theorem tail_low {p : Option Addr} {g o c B : Nat} (hg : g < B) (n : Nat) : ∀ g' o', (if c = 1 then some (⟨g, o, none⟩ : Addr) else some ⟨g, o + 3, none⟩) = some ⟨g', o', none⟩ → 0 < n → g' < B := by
  intro g' o' e _
  split at e
  · injection e with e; injection e with e; omega
  · injection e with e; injection e with e; omega
theorem Cg.small {w : World} {s : Int} {A B : List Lv} {S T : Nat} {wr : World} {p1 : Option Addr} {c1 : Nat} {a : List Lv} {p2 : Option Addr} {c2 : Nat} {b : List Lv} {q : Option Addr} {m d : Nat} {L : List Dm} (h : Cg w s A B S T wr p1 c1 a p2 c2 b q m d L) (hs : A.length + B.length ≤ 1000000) : m ≤ 1000000 := by
  have := chg_len s A B
  rw [← h.xe, List.length_append, ← h.xm] at this
  omega
theorem changes_any (s : Int) (p1 p2 : Option Addr) (c1 c2 : Nat) (A B : List Lv) (w : World) (h1 : Rl w p1 c1 A) (h2 : Rl w p2 c2 B) (hs : A.length + B.length ≤ 1000000) :
    Calls Try.prog 33 #[.int .i64 s, .slice p1 A.length c1, .slice p2 B.length c2] w fun e w' => ∃ q d, e = .returned (.slice q (chg s A B).length d) ∧ Dw w.heap.size w' q d (chg s A B) ∧ Below w.heap.size w w' := by
  obtain ⟨R, hR⟩ : ∃ R, w.heap.size = R := ⟨_, rfl⟩
  obtain ⟨W, hW⟩ : ∃ W, (w.alloc (.cells #[.int .i64 s] 3)).alloc (.cells #[.slice none 0 0] 39) = W := ⟨_, rfl⟩
  obtain ⟨hb0, x0, x1, hsz⟩ := alloc2 hR hW
  have ST := hid (show Cg w s A B R (R + 1) W p1 c1 A p2 c2 B none 0 0 [] from ⟨h1.on hb0, h2.on hb0, x1 _ _ rfl, x0 _ _ rfl, own_nil _ _ _ _, rfl, rfl, hb0, fun g o e hl => by obtain ⟨g', o', e', hg⟩ := h1.some hl; rw [e'] at e; injection e with e; injection e with e; omega, fun g o e hl => by obtain ⟨g', o', e', hg⟩ := h2.some hl; rw [e'] at e; injection e with e; injection e with e; omega⟩)
  have HS := hid hs
  have HW := hid hW
  have HR := hid hR
  clear h1 h2 hb0 x0 x1 hsz hW hR hs
  go_enter Try.func33, Try.ntmps33
  go_upto_region 3 with fail
  rw [HW.out, HR.out]
  go_loopw [1, 2] (fun bv nv wr => ∃ p1 c1 a p2 c2 b q m d L, bv = .slice p1 (a : List Lv).length c1 ∧ nv = .slice p2 (b : List Lv).length c2 ∧ Hid (Cg w s A B R (R + 1) wr p1 c1 a p2 c2 b q m d L)) (fun bv nv _ => lenOf bv + lenOf nv)
  case atStart => exact ⟨p1, c1, A, p2, c2, B, none, 0, 0, [], rfl, rfl, ST.out⟩
  case round =>
    obtain ⟨p1, c1, a, p2, c2, b, q, m, d, L, rfl, rfl, HC⟩ := hrel
    clear ST
    have k1 := row_cell HC.out.xs 0
    have k2 := row_cell HC.out.xt 0
    have hm := HC.out.small HS.out
    have FO := hid (firstOf_any s p1 p2 c1 c2 a b wr HC.out.r1 HC.out.r2)
    have TL := hid (fun (x : Lv) (n : Nat) => tell_any w.heap.size (R + 1) R s q m d L x (wr.drewN n) (row_on HC.out.xt (bdrew _ _)) (row_on HC.out.xs (bdrew _ _)) (own_on HC.out.xo (bdrew _ _)) hm (by have := HR.out; omega) (Nat.le_trans HC.out.xb.size (bdrew wr n).size))
    obtain ⟨na, hna⟩ : ∃ n, a.length = n := ⟨_, rfl⟩
    obtain ⟨nb, hnb⟩ : ∃ n, b.length = n := ⟨_, rfl⟩
    have HNA := hid hna
    have HNB := hid hnb
    rw [hna, hnb] at FO
    rw [hna, hnb]
    cases a with
    | nil =>
      cases b with
      | nil =>
        simp only [List.length_nil] at hna hnb
        subst hna hnb
        have E := hid HC.out.xe
        have M := hid HC.out.xm
        go_wp2
        go_ret
        simp only [chg_nn, List.append_nil] at E
        refine ⟨q, d, by rw [← E.out, ← M.out]; rfl, ?_, HC.out.xb⟩
        unfold Dw
        rw [← E.out, ← M.out]
        exact HC.out.xo
      | cons y b =>
        obtain ⟨g2, o2, rfl, _, b0, b1, b2⟩ := HC.out.r2.cells (i := 0) (by simp)
        simp only [List.getElem_cons_zero, Nat.zero_mul, Nat.add_zero] at b0 b1 b2
        have n1 : (0 : Int) < (nb : Int) := by simp at hnb; omega
        have n1' : decide (0 < nb) = true := by simp at hnb ⊢; omega
        have n2 : 1 ≤ nb := by simp at hnb; omega
        have n3 : (1 : Int) ≤ (nb : Int) := by omega
        simp only [List.length_nil] at hna
        subst hna
        rw [show fof s [] (y :: b) = 1 from rfl] at FO
        have GX := hid (fun n => TL.out y n)
        have GL := hid (HC.out.g2 g2 o2 rfl (by simp))
        have HNB' := hid (show b.length = nb - 1 from by have := HNB.out; simp at this; omega)
        have hcap := HC.out.r2.cap
        have hmax := HC.out.r2.max
        rw [HNB.out] at hcap
        unfold maxLen at hmax
        go_wp2_with (first | (go_at_call 60; with_reducible refine (FO.out).mono ?_; rintro e w1 ⟨rfl, nq, rfl⟩) | (go_at_call 59; with_reducible refine (GX.out _).mono ?_; rintro e w2 ⟨rfl, q', d', t', s', o', b'⟩; have T2 := hid t'; have S2 := hid s'; have O2 := hid o'; have B2 := hid b'; clear t' s' o' b'))
        go_roundw
        case rel => exact ⟨_, _, [], _, _, b, q', m + 1, d', L ++ [tld s y], rfl, by rw [HNB'.out], HC.out.next T2.out S2.out O2.out B2.out HC.out.r1 HC.out.r2.tail (fun g o _ h => by simp at h) (tail_low (p := none) GL.out _) (chg_nc s y b)⟩
        case measure => simp [lenOf]; omega
    | cons x a =>
      cases b with
      | nil =>
        obtain ⟨g1, o1, rfl, _, a0, _, _⟩ := HC.out.r1.cells (i := 0) (by simp)
        simp only [List.getElem_cons_zero, Nat.zero_mul, Nat.add_zero] at a0
        have n1 : (0 : Int) < (na : Int) := by simp at hna; omega
        have n1' : decide (0 < na) = true := by simp at hna ⊢; omega
        have n2 : 1 ≤ na := by simp at hna; omega
        have n3 : (1 : Int) ≤ (na : Int) := by omega
        simp only [List.length_nil] at hnb
        subst hnb
        rw [show fof s (x :: a) [] = -1 from rfl] at FO
        have GX := hid (fun n => TL.out ⟨x.pr, 0, 0⟩ n)
        have GL := hid (HC.out.g1 g1 o1 rfl (by simp))
        have HNA' := hid (show a.length = na - 1 from by have := HNA.out; simp at this; omega)
        have hcap := HC.out.r1.cap
        have hmax := HC.out.r1.max
        rw [HNA.out] at hcap
        unfold maxLen at hmax
        go_wp2_with (first | (go_at_call 60; with_reducible refine (FO.out).mono ?_; rintro e w1 ⟨rfl, nq, rfl⟩) | (go_at_call 59; with_reducible refine (GX.out _).mono ?_; rintro e w2 ⟨rfl, q', d', t', s', o', b'⟩; have T2 := hid t'; have S2 := hid s'; have O2 := hid o'; have B2 := hid b'; clear t' s' o' b'))
        go_roundw
        case rel => exact ⟨_, _, a, _, _, [], q', m + 1, d', L ++ [gone s x], by rw [HNA'.out], rfl, HC.out.next T2.out S2.out O2.out B2.out HC.out.r1.tail HC.out.r2 (tail_low (p := none) GL.out _) (fun g o _ h => by simp at h) (chg_cn s x a)⟩
        case measure => simp [lenOf]; omega
      | cons y b =>
        obtain ⟨g1, o1, rfl, _, a0, a1, a2⟩ := HC.out.r1.cells (i := 0) (by simp)
        simp only [List.getElem_cons_zero, Nat.zero_mul, Nat.add_zero] at a0 a1 a2
        obtain ⟨g2, o2, rfl, _, b0, b1, b2⟩ := HC.out.r2.cells (i := 0) (by simp)
        simp only [List.getElem_cons_zero, Nat.zero_mul, Nat.add_zero] at b0 b1 b2
        have n1 : (0 : Int) < (na : Int) := by simp at hna; omega
        have n1' : decide (0 < na) = true := by simp at hna ⊢; omega
        have n2 : 1 ≤ na := by simp at hna; omega
        have n3 : (1 : Int) ≤ (na : Int) := by omega
        have n4 : (0 : Int) < (nb : Int) := by simp at hnb; omega
        have n5 : 1 ≤ nb := by simp at hnb; omega
        have n6 : (1 : Int) ≤ (nb : Int) := by omega
        have GL1 := hid (HC.out.g1 g1 o1 rfl (by simp))
        have GL2 := hid (HC.out.g2 g2 o2 rfl (by simp))
        have HNA' := hid (show a.length = na - 1 from by have := HNA.out; simp at this; omega)
        have HNB' := hid (show b.length = nb - 1 from by have := HNB.out; simp at this; omega)
        rw [show fof s (x :: a) (y :: b) = od s x.pr y.pr from rfl] at FO
        have hcap := HC.out.r1.cap
        have hmax := HC.out.r1.max
        rw [HNA.out] at hcap
        have hcap2 := HC.out.r2.cap
        have hmax2 := HC.out.r2.max
        rw [HNB.out] at hcap2
        unfold maxLen at hmax hmax2
        clear hna hnb
        obtain ⟨v, hv⟩ : ∃ v, od s x.pr y.pr = v := ⟨_, rfl⟩
        rw [hv] at FO
        by_cases v1 : v < 0
        · have HX := hid (show chg s (x :: a) (y :: b) = gone s x :: chg s a (y :: b) from chg_lt (od_neg.1 (by rw [hv]; exact v1)))
          have GX := hid (fun n => TL.out ⟨x.pr, 0, 0⟩ n)
          clear hv
          go_wp2_with (first | (go_at_call 60; with_reducible refine (FO.out).mono ?_; rintro e w1 ⟨rfl, nq, rfl⟩) | (go_at_call 59; with_reducible refine (GX.out _).mono ?_; rintro e w2 ⟨rfl, q', d', t', s', o', b'⟩; have T2 := hid t'; have S2 := hid s'; have O2 := hid o'; have B2 := hid b'; clear t' s' o' b'))
          go_roundw
          case rel => exact ⟨_, _, a, _, _, y :: b, q', m + 1, d', L ++ [gone s x], by rw [HNA'.out], by rw [HNB.out], HC.out.next T2.out S2.out O2.out B2.out HC.out.r1.tail HC.out.r2 (tail_low (p := none) GL1.out _) HC.out.g2 HX.out⟩
          case measure => simp [lenOf]; omega
        · have v1' : decide (v < 0) = false := by simpa using v1
          by_cases v2 : 0 < v
          · have HX := hid (show chg s (x :: a) (y :: b) = tld s y :: chg s (x :: a) b from chg_gt (od_pos.1 (by rw [hv]; exact v2)))
            have GX := hid (fun n => TL.out y n)
            clear hv v1
            go_wp2_with (first | (go_at_call 60; with_reducible refine (FO.out).mono ?_; rintro e w1 ⟨rfl, nq, rfl⟩) | (go_at_call 59; with_reducible refine (GX.out _).mono ?_; rintro e w2 ⟨rfl, q', d', t', s', o', b'⟩; have T2 := hid t'; have S2 := hid s'; have O2 := hid o'; have B2 := hid b'; clear t' s' o' b'))
            go_roundw
            case rel => exact ⟨_, _, x :: a, _, _, b, q', m + 1, d', L ++ [tld s y], by rw [HNA.out], by rw [HNB'.out], HC.out.next T2.out S2.out O2.out B2.out HC.out.r1 HC.out.r2.tail HC.out.g1 (tail_low (p := none) GL2.out _) HX.out⟩
            case measure => simp [lenOf]; omega
          · have v2' : decide (0 < v) = false := by simpa using v2
            have hp : x.pr = y.pr := by
              refine bt_tri (s := s) ?_ ?_
              · cases hq : bt s x.pr y.pr with
                | false => rfl
                | true => have := od_neg.2 hq; omega
              · cases hq : bt s y.pr x.pr with
                | false => rfl
                | true => have := od_pos.2 hq; omega
            have HP := hid hp
            have EQ := hid (eqL_at x y)
            clear hv v1 v2 hp
            by_cases exy : x = y
            · have EE := hid exy
              have q1 : ∀ U, (Op.equalIn 10000 71 (.agg #[.int .i64 x.pr, .int .u64 x.qt, .int .i64 x.ct]) (.agg #[.int .i64 y.pr, .int .u64 y.qt, .int .i64 y.ct])).run Try.prog U = .ok true U := fun U => by rw [EQ.out, exy]; simp
              have HX := hid (show chg s (x :: a) (y :: b) = chg s a b from by rw [exy]; exact chg_eq)
              clear exy
              go_upto_region 5 with (go_at_call 60; with_reducible refine (FO.out).mono ?_; rintro e w1 ⟨rfl, nq, rfl⟩)
              go_quiet (fail)
              go_upto_region 7 with fail
              go_quiet (fail)
              go_wp2
              go_roundw
              case rel => exact ⟨_, _, a, _, _, b, q, m, d, L, by rw [HNA'.out], by rw [HNB'.out], HC.out.skip (btr (bdrew _ _) (btr (bdrew _ _) (bdrew _ _))) HC.out.r1.tail HC.out.r2.tail (tail_low (p := none) GL1.out _) (tail_low (p := none) GL2.out _) HX.out⟩
              case measure => simp [lenOf]; omega
            · have EE := hid exy
              have q1 : ∀ U, (Op.equalIn 10000 71 (.agg #[.int .i64 x.pr, .int .u64 x.qt, .int .i64 x.ct]) (.agg #[.int .i64 y.pr, .int .u64 y.qt, .int .i64 y.ct])).run Try.prog U = .ok false U := fun U => by rw [EQ.out]; simp [exy]
              have HX := hid (show chg s (x :: a) (y :: b) = tld s y :: chg s a b from chg_ne HP.out exy)
              have GX := hid (fun n => TL.out y n)
              clear exy
              go_upto_region 5 with (go_at_call 60; with_reducible refine (FO.out).mono ?_; rintro e w1 ⟨rfl, nq, rfl⟩)
              go_quiet (fail)
              go_upto_region 7 with (go_at_call 59; with_reducible refine (GX.out _).mono ?_; rintro e w2 ⟨rfl, q', d', t', s', o', b'⟩; have T2 := hid t'; have S2 := hid s'; have O2 := hid o'; have B2 := hid b'; clear t' s' o' b')
              have HC2 := hid (HC.out.next T2.out S2.out O2.out B2.out HC.out.r1.tail HC.out.r2.tail (tail_low (p := none) GL1.out _) (tail_low (p := none) GL2.out _) HX.out)
              go_quiet (fail)
              go_wp2
              go_roundw
              case rel => exact ⟨_, _, a, _, _, b, q', m + 1, d', L ++ [tld s y], by rw [HNA'.out], by rw [HNB'.out], HC2.out.skip (bdrew _ _) HC2.out.r1 HC2.out.r2 HC2.out.g1 HC2.out.g2 rfl⟩
              case measure => simp [lenOf]; omega
end Go.Proofs.Ytojmcfkbekodpaa.Fd
