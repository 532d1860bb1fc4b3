/-
  The document's goes.
-/
import Derived.Test.YtiphgfghdbmlcaaFhC
import Derived.Test.YtiphgfghdbmlcaaFgK
import Derived.Deep.LoopGhost
import Derived.Deep.RegionLaw
import Derived.Deep.Upon
namespace Go.Proofs.Ytiphgfghdbmlcaa
open Go.RowKit Go.Deep Go.Shelf
set_option linter.unusedVariables false
set_option linter.unusedSimpArgs false
set_option maxHeartbeats 8000000
set_option maxRecDepth 100000
theorem hix_no {L : List Dm} {k : Int} (h : hasN L k = false) : hix L k = none := by
  refine hix_none (fun j hj e => ?_)
  unfold hasN at h
  rw [List.any_eq_false] at h
  exact h _ (List.getElem_mem hj) (by simpa using e)
theorem nd_take {L : List Dm} (hnd : L.Pairwise (fun x y => x.sq ≠ y.sq)) {i : Nat} (hi : i < L.length) : L.take i ++ L.drop (i + 1) = wo L L[i].sq := by
  obtain ⟨x, hx⟩ : ∃ x, L[i] = x := ⟨_, rfl⟩
  rw [hx]
  have hs : L = L.take i ++ x :: L.drop (i + 1) := by
    conv => lhs; rw [← List.take_append_drop i L]
    rw [List.drop_eq_getElem_cons hi, hx]
  have hw : wo L x.sq = (L.take i).filter (fun d => d.sq != x.sq) ++ (L.drop (i + 1)).filter (fun d => d.sq != x.sq) := by
    unfold wo
    conv => lhs; rw [hs]
    rw [List.filter_append, List.filter_cons, if_neg (by simp)]
  rw [hw]
  have h3 : ∀ j (hj : j < L.length), j ≠ i → L[j].sq ≠ L[i].sq := fun j hj hne => by
    rcases Nat.lt_or_gt_of_ne hne with h | h
    · exact List.pairwise_iff_getElem.1 hnd j i hj hi h
    · exact fun e => List.pairwise_iff_getElem.1 hnd i j hi hj h e.symm
  rw [hx] at h3
  congr 1
  · symm
    rw [List.filter_eq_self]
    intro d hd
    obtain ⟨j, hj, rfl⟩ := List.getElem_of_mem hd
    rw [List.length_take] at hj
    rw [List.getElem_take]
    have := h3 j (by omega) (by omega)
    simpa using this
  · symm
    rw [List.filter_eq_self]
    intro d hd
    obtain ⟨j, hj, rfl⟩ := List.getElem_of_mem hd
    rw [List.length_drop] at hj
    rw [List.getElem_drop]
    have := h3 (i + 1 + j) (by omega) (by omega)
    simpa using this
theorem hix_yes {L : List Dm} {k : Int} (h : hasN L k = true) (hnd : L.Pairwise (fun x y => x.sq ≠ y.sq)) : ∃ i, ∃ hi : i < L.length, hix L k = some i ∧ L[i] = fnd L k ∧ L.take i ++ L.drop (i + 1) = wo L k := by
  obtain ⟨m, e⟩ := fnd_mem h
  obtain ⟨i, hi, hm⟩ := List.getElem_of_mem m
  refine ⟨i, hi, hix_some hi (by rw [hm]; exact e) (fun j hj hlt hc => ?_), hm, ?_⟩
  · exact List.pairwise_iff_getElem.1 hnd j i hj hi hlt (by rw [hc, hm, e])
  · have := nd_take hnd hi
    rw [hm, e] at this
    exact this
/-- messages that may be read are put behind one's own, in a region that draws its order. -/
theorem step_dw {w : World} {ops : Array Oper} {oo : Oper} {a : Act} {K : Act → World → Prop} {Q : Exit → Act → World → Prop} {E : Prop} (hgd : oo.guard = none) (s x : Operand)
    (ho : oo.op = .call { callee := .builtin .append, args := #[s, x], argTypes := #[39, 39] }) (base : Nat) (v : Value) (n : Nat) (ys : List Dm) (hs : a.eval s = v) (h1 : w.ownsRow base 48 6 v n (dvc ys))
    (q : Option Addr) (c m : Nat) (xs : List Dm) (hx : a.eval x = .slice q m c) (hq : q = none → m = 0 ∧ c = 0) (hl : xs.length = m) (hc : ∀ ad, q = some ad → ∀ j u, (dvc xs)[j]? = some u → w.cell? (ad.add j) = some u) (k : Nat) (hk : n + m = k) (zs : List Dm) (hz : ys ++ xs = zs) (h63 : n + m ≤ 8192) (hbase : base ≤ w.heap.size)
    (h : ∀ p' c' w', Hid (w'.ownsRow base 48 6 (.slice p' k c') k (dvc zs)) → Hid (w.grownBy w' v.ownBlock) → K (a.put oo.dst (.slice p' k c')) w') : if Region.wanted oo (yielded ops a.tmps) = true then Oper.wp Try.prog oo a w K Q else E := by
  have hw : Region.wanted oo (yielded ops a.tmps) = true := by simp [Region.wanted, hgd]
  rw [if_pos hw]
  subst hk hz
  obtain ⟨i0, hi, hz0, hz1, hz2⟩ := info_parts infoD6
  cases q with
  | none =>
    obtain ⟨rfl, rfl⟩ := hq rfl
    obtain rfl : xs = [] := List.length_eq_zero_iff.1 hl
    have hrun := run_append_owned_none (P := Try.prog) (w := w) base 39 oo.type 48 i0 6 Try.underlying39 hi v n (dvc ys) h1
    obtain ⟨p', c', rfl⟩ := own_form h1
    unfold Oper.wp
    simp [Oper.upon, execOp, ho, resolve, invoke, builtin, hs, hx, hrun, Result.andThen]
    have := h p' c' w (hid (by rw [List.append_nil]; exact h1)) (hid (grown_refl _ _))
    simpa using this
  | some ad =>
    refine wp_append_own w s x 39 ho base 48 i0 _ 6 48 Try.underlying39 hi hz0 hz1 hz2 rfl (by decide) v n (dvc ys) hs h1 ad m c (dvc xs) hx (by rw [dvc_len, hl]) (hc ad rfl) (dvc_one _) (by unfold maxLen; omega) (by omega) hbase (fun v' w' h2 h3 _ => ?_)
    obtain ⟨p', c', rfl⟩ := own_form h2
    exact h p' c' w' (hid (by rw [dvc_app]; exact h2)) (hid h3)
theorem own_d0 (w : World) : (w.alloc (.cells #[] 48)).ownsRow w.heap.size 48 6 (.slice (some ⟨w.heap.size, 0, none⟩) 0 0) 0 (dvc []) := ⟨rfl, .inr ⟨w.heap.size, 0, #[], rfl, Nat.le_refl _, World.alloc_heap_new _ _, Nat.le_refl _, by unfold maxLen; omega, rfl, rfl⟩⟩
theorem dvc_drop (l : List Dm) (n : Nat) : dvc (l.drop n) = (dvc l).drop (n * 6) := by
  induction l generalizing n with
  | nil => simp [dvc]
  | cons x l ih =>
    cases n with
    | zero => simp
    | succ n => rw [List.drop_succ_cons, ih, dvc_cons, show (n + 1) * 6 = n * 6 + 6 by omega]; simp [List.drop_append]
theorem dvc_take (l : List Dm) (n : Nat) : dvc (l.take n) = (dvc l).take (n * 6) := by
  induction l generalizing n with
  | nil => simp [dvc]
  | cons x l ih =>
    cases n with
    | zero => simp [dvc]
    | succ n => rw [List.take_succ_cons, dvc_cons, dvc_cons, ih, show (n + 1) * 6 = n * 6 + 6 by omega]; simp [List.take_append]
/-- the document's subscriber lies. -/
structure Rd (w : World) (s : Ss) (q1 : Option Addr) (e1 : Nat) (q2 : Option Addr) (e2 : Nat) (q3 : Option Addr) (e3 : Nat) : Prop where
  o1 : Lo 0 w q1 e1 s.l1
  o2 : Lo 0 w q2 e2 s.l2
  o3 : Dw 0 w q3 e3 s.L
theorem Rd.on {w w' : World} {s : Ss} {q1 q2 q3 : Option Addr} {e1 e2 e3 : Nat} (h : Rd w s q1 e1 q2 e2 q3 e3) (hb : Below w.heap.size w w') : Rd w' s q1 e1 q2 e2 q3 e3 := ⟨h.o1.on hb, h.o2.on hb, h.o3.on hb⟩
theorem Rd.kept {w w' : World} {F : Nat → Prop} {s : Ss} {q1 q2 q3 : Option Addr} {e1 e2 e3 : Nat} (h : Rd w s q1 e1 q2 e2 q3 e3) (hk : Kp F w w') (f1 : ∀ g, OfP q1 g → ¬ F g) (f2 : ∀ g, OfP q2 g → ¬ F g) (f3 : ∀ g, OfP q3 g → ¬ F g) : Rd w' s q1 e1 q2 e2 q3 e3 := ⟨h.o1.kept hk f1, h.o2.kept hk f2, h.o3.kept hk f3⟩
theorem Sd.lo {w w' : World} {p q : Option Addr} {c e : Nat} {l l' : List Lv} (h : Sd w w' p c l q e l') (hl : Lo 0 w p c l) (hb : Below w.heap.size w w') : Lo 0 w' q e l' ∧ Fr w.heap.size p q := by
  rcases h with ⟨rfl, rfl, rfl⟩ | h
  · exact ⟨hl.on hb, Fr.refl _ _⟩
  · exact ⟨h.base (Nat.zero_le _), h.fr⟩
theorem rdoes_any (d : Dm) (hok : dOk d = true) (hold : Nat) (s : Ss) (p1 p2 p3 : Option Addr) (c1 c2 n3 c3 : Nat) (w : World) (h1 : Lo 0 w p1 c1 s.l1) (h2 : Lo 0 w p2 c2 s.l2) (b1 : s.l1.length ≤ 262144) (b2 : s.l2.length ≤ 262144) :
    Calls Try.prog 56 #[.agg #[.int .i64 hold, .int .u64 s.sq, .slice p1 s.l1.length c1, .slice p2 s.l2.length c2, .slice p3 n3 c3, .int .u64 s.gr, .int .u64 s.la.sq, .int .i64 s.la.kd, .int .i64 s.la.sd, .int .i64 s.la.pr, .int .u64 s.la.qt, .int .i64 s.la.ct], .agg #[.int .u64 d.sq, .int .i64 d.kd, .int .i64 d.sd, .int .i64 d.pr, .int .u64 d.qt, .int .i64 d.ct]] w fun e w' => ∃ q1 e1 q2 e2, e = .returned (.agg #[.int .i64 hold, .int .u64 (doS s d).sq, .slice q1 (doS s d).l1.length e1, .slice q2 (doS s d).l2.length e2, .slice p3 n3 c3, .int .u64 s.gr, .int .u64 (doS s d).la.sq, .int .i64 (doS s d).la.kd, .int .i64 (doS s d).la.sd, .int .i64 (doS s d).la.pr, .int .u64 (doS s d).la.qt, .int .i64 (doS s d).la.ct]) ∧ Lo 0 w' q1 e1 (doS s d).l1 ∧ Lo 0 w' q2 e2 (doS s d).l2 ∧ Fr w.heap.size p1 q1 ∧ Fr w.heap.size p2 q2 ∧ Below w.heap.size w w' := by
  have h' := (dOk_iff _).1 hok
  by_cases hk : d.kd = 2
  · refine (rdoes_t d s.la hok hk hold s.sq s.gr p1 p2 p3 c1 c2 n3 c3 s.l1 s.l2 w h1.rl h2.rl b1 b2).mono ?_
    rintro e w' ⟨q1, e1, q2, e2, rfl, _, _, x1, x2, x3⟩
    obtain ⟨y1, y2⟩ := x1.lo h1 x3
    obtain ⟨z1, z2⟩ := x2.lo h2 x3
    have e0 : (doS s d).la = d := by unfold doS; simp [hk]
    rw [e0]
    exact ⟨q1, e1, q2, e2, rfl, y1, z1, y2, z2, x3⟩
  · refine (rdoes_l d s.la hok (by omega) hold s.sq s.gr p1 p2 p3 c1 c2 n3 c3 s.l1 s.l2 w h1.rl h2.rl b1 b2).mono ?_
    rintro e w' ⟨q1, e1, q2, e2, rfl, _, _, x1, x2, x3⟩
    obtain ⟨y1, y2⟩ := x1.lo h1 x3
    obtain ⟨z1, z2⟩ := x2.lo h2 x3
    have e0 : (doS s d).la = s.la := by unfold doS; simp [hk]
    rw [e0]
    exact ⟨q1, e1, q2, e2, rfl, y1, z1, y2, z2, x3⟩
end Go.Proofs.Ytiphgfghdbmlcaa
