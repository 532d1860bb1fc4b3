/-
  Messages numbered in their own memory.
-/
import Derived.Test.YtojmcfkbekodpaaKy
namespace Go.Proofs.Ytojmcfkbekodpaa.Fd
open Go.RowKit Go.Deep
set_option linter.unusedVariables false
set_option linter.unusedSimpArgs false
set_option maxHeartbeats 4000000
set_option maxRecDepth 100000
theorem uw_rng (x : Int) : 0 ≤ uw x ∧ uw x < 18446744073709551616 := by rw [uw_eq]; omega
theorem uw_id {x : Int} (h : 0 ≤ x ∧ x < 18446744073709551616) : uw x = x := by rw [uw_eq]; omega
theorem uw_succ (x : Int) : IntKind.u64.wrap (uw x + 1) = uw (x + 1) := by show uw (uw x + 1) = _; rw [uw_eq, uw_eq, uw_eq]; omega
theorem uw_add (x y : Int) : uw (uw x + y) = uw (x + y) := by rw [uw_eq, uw_eq, uw_eq]; omega
/-- the first ones have their numbers. -/
def nmi (s : Int) (T : List Dm) (i : Nat) : List Dm := (nmb s T).take i ++ T.drop i
theorem nmi_zero (s : Int) (T : List Dm) : nmi s T 0 = T := by simp [nmi]
theorem nmi_all (s : Int) (T : List Dm) : nmi s T T.length = nmb s T := by
  unfold nmi
  rw [List.take_of_length_le (by rw [nmb_len]; exact Nat.le_refl _), List.drop_length, List.append_nil]
theorem nmi_len (s : Int) (T : List Dm) (i : Nat) (h : i ≤ T.length) : (nmi s T i).length = T.length := by
  unfold nmi
  rw [List.length_append, List.length_take, List.length_drop, nmb_len]; omega
theorem nmi_get (s : Int) (T : List Dm) (i : Nat) (h : i < T.length) : (nmi s T i)[i]? = some T[i] := by
  unfold nmi
  have e : ((nmb s T).take i).length = i := by rw [List.length_take, nmb_len]; omega
  rw [List.getElem?_append_right (by rw [e]; exact Nat.le_refl _), e, Nat.sub_self, List.getElem?_drop, Nat.add_zero]
  exact List.getElem?_eq_getElem h
theorem nmi_succ (s : Int) (T : List Dm) (i : Nat) (h : i < T.length) : nmi s T (i + 1) = (nmi s T i).set i { T[i] with sq := uw (s + i + 1) } := by
  have e : ((nmb s T).take i).length = i := by rw [List.length_take, nmb_len]; omega
  unfold nmi
  rw [List.set_append_right _ _ (by rw [e]; exact Nat.le_refl _), e, Nat.sub_self, List.drop_eq_getElem_cons h, List.set_cons_zero, List.take_succ_eq_append_getElem (by rw [nmb_len]; exact h), nmb_get s T i h]
  simp
theorem dvc_set (Y : List Dm) (i : Nat) (y : Dm) (h : Y[i]? = some y) (v : Int) : dvc (Y.set i { y with sq := v }) = (dvc Y).set (i * 6) (.int .u64 v) := by
  induction Y generalizing i with
  | nil => simp at h
  | cons a Y ih =>
    cases i with
    | zero => simp only [List.getElem?_cons_zero, Option.some.injEq] at h; subst h; simp [dvc]
    | succ i =>
      have := ih i (by simpa using h)
      rw [List.set_cons_succ, dvc_cons, dvc_cons, this, show (i + 1) * 6 = i * 6 + 6 by omega]
      rfl
theorem own_setc {base : Nat} {w : World} {e : TypeId} {size n c g j : Nat} {u : Value} {xs : List Value} (h : w.ownsRow base e size (.slice (some ⟨g, 0, none⟩) n c) n xs) (hj : j < n * size) : (w.setCell ⟨g, j, none⟩ u).ownsRow base e size (.slice (some ⟨g, 0, none⟩) n c) n (xs.set j u) := by
  obtain ⟨h0, ⟨e1, e2⟩ | ⟨g', c', cur, e1, r1, r2, r3, r4, r5, r6⟩⟩ := h
  · cases (Value.slice.inj e1).1
  · have e3 := (Value.slice.inj e1).1
    injection e3 with e3
    injection e3 with e3
    subst e3
    have e2 := (Value.slice.inj e1).2.2
    subst e2
    refine ⟨by rw [List.length_set]; exact h0, .inr ⟨g, c, _, rfl, r1, set_row u r2, r3, r4, by simpa using r5, ?_⟩⟩
    rw [← r6]
    simp [Array.toList_setIfInBounds, List.take_set]
theorem own_at {base : Nat} {w : World} {e : TypeId} {size n c : Nat} {p : Option Addr} {xs : List Value} (h : w.ownsRow base e size (.slice p n c) n xs) (hn : 0 < n) : ∃ g cur, p = some ⟨g, 0, none⟩ ∧ base ≤ g ∧ w.heap[g]? = some (.cells cur e (0, 0)) ∧ n ≤ c ∧ c ≤ maxLen ∧ cur.size = c * size := by
  obtain ⟨h0, ⟨e1, e2⟩ | ⟨g', c', cur, e1, r1, r2, r3, r4, r5, r6⟩⟩ := h
  · omega
  · obtain ⟨rfl, _, rfl⟩ := Value.slice.inj e1
    exact ⟨g', cur, rfl, r1, r2, r3, r4, r5⟩
end Go.Proofs.Ytojmcfkbekodpaa.Fd
namespace Go.Proofs.Ytojmcfkbekodpaa.Fd
open Go.RowKit Go.Deep
set_option linter.unusedVariables false
set_option linter.unusedSimpArgs false
set_option maxHeartbeats 4000000
set_option maxRecDepth 100000
/-- a publisher. -/
structure Pb (w : World) (B d : Nat) (sq : Int) (p1 : Option Addr) (c1 : Nat) (l1 : List Lv) (p2 : Option Addr) (c2 : Nat) (l2 : List Lv) : Prop where
  row : w.heap[B]? = some (.cells #[.int .i64 d, .int .u64 sq, .slice p1 l1.length c1, .slice p2 l2.length c2] 73 (0, 0))
  r1 : Rl w p1 c1 l1
  r2 : Rl w p2 c2 l2
  k1 : Lok 1 l1
  k2 : Lok 2 l2
  n1 : l1.length ≤ 64
  n2 : l2.length ≤ 64
  d1 : 1 ≤ d
  d2 : d ≤ 64
  sq : 0 ≤ sq ∧ sq < 18446744073709551616
theorem Pb.on {w w' : World} {B d : Nat} {sq : Int} {p1 : Option Addr} {c1 : Nat} {l1 : List Lv} {p2 : Option Addr} {c2 : Nat} {l2 : List Lv} (h : Pb w B d sq p1 c1 l1 p2 c2 l2) (hb : Below w.heap.size w w') : Pb w' B d sq p1 c1 l1 p2 c2 l2 :=
  ⟨row_on h.row hb, h.r1.on hb, h.r2.on hb, h.k1, h.k2, h.n1, h.n2, h.d1, h.d2, h.sq⟩
/-- what is told. -/
def pubT (d : Nat) (l1 l2 lb ls : List Lv) (le : List Ev) : List Dm := trd le ++ chg 1 l1 (lb.take d) ++ chg 2 l2 (ls.take d)
def pubOk (lb ls : List Lv) (le : List Ev) : Bool := trOk le && (lok 1 lb && lok 2 ls)
theorem publish_no (B d : Nat) (sq : Int) (p1 p2 pb ps pe : Option Addr) (c1 c2 cb cs ce : Nat) (l1 l2 lb ls : List Lv) (le : List Ev) (w : World) (h : Pb w B d sq p1 c1 l1 p2 c2 l2) (hb : Rl w pb cb lb) (hs : Rl w ps cs ls) (he : Re w pe ce le) (hl : le.length * 104 ≤ 140737488355328) (hok : pubOk lb ls le = false) :
    Calls Try.prog 11 #[.pointer (some ⟨B, 0, none⟩), .slice pb lb.length cb, .slice ps ls.length cs, .slice pe le.length ce] w fun e w' => e = .returned (.tuple #[.slice none 0 0, .int .i64 1]) ∧ Below w.heap.size w w' := by
  have CT := hid (trades_any pe ce le w he hl)
  have CL := hid (fun (U : World) (hU : Below w.heap.size w U) => on_b (canBeLevels_any pb ps cb cs lb ls U (hb.on hU) (hs.on hU)) hU)
  have HT := hid (trd_len le)
  unfold pubOk at hok
  cases ht : trOk le with
  | false =>
    rw [ht] at CT
    clear hok ht hl h hb hs he
    go_enter Try.func11, Try.ntmps11
    go_upto_region 2 with (go_at_call 30; with_reducible refine (CT.out).mono ?_; rintro e w1 ⟨hb, ⟨_, rfl⟩ | ⟨h, _⟩⟩; rotate_left; (cases h); have HB := hid hb; clear hb)
    go_wp2
    go_ret2
    exact ⟨rfl, HB.out⟩
  | true =>
    rw [ht] at CT hok
    simp only [Bool.true_and] at hok
    rw [hok] at CL
    clear hok ht hl h hb hs he
    go_enter Try.func11, Try.ntmps11
    go_upto_region 2 with (go_at_call 30; with_reducible refine (CT.out).mono ?_; rintro e w1 ⟨hb, ⟨h, _⟩ | ⟨_, q, dd, rfl, hd⟩⟩; (cases h); have HB := hid hb; clear hb hd)
    go_wp2_with (go_at_call 31; with_reducible refine (CL.out _ HB.out).mono ?_; rintro e w2 ⟨rfl, HB2⟩)
    go_ret2
    exact ⟨rfl, HB2.out⟩
end Go.Proofs.Ytojmcfkbekodpaa.Fd
namespace Go.Proofs.Ytojmcfkbekodpaa.Fd
open Go.RowKit Go.Deep
set_option linter.unusedVariables false
set_option linter.unusedSimpArgs false
set_option maxHeartbeats 4000000
set_option maxRecDepth 100000
/-- what stands at the head of the loop that numbers. -/
structure Nu (w : World) (B d : Nat) (sq : Int) (v1 v2 : Value) (T : List Dm) (q : Option Addr) (dd : Nat) (q1 : Option Addr) (e1 : Nat) (f1 : List Lv) (q2 : Option Addr) (e2 : Nat) (f2 : List Lv) (i : Nat) (x : Int) (wr : World) : Prop where
  row : wr.heap[B]? = some (.cells #[.int .i64 d, .int .u64 x, v1, v2] 73 (0, 0))
  x : x = uw (sq + i)
  o : wr.ownsRow w.heap.size 47 6 (.slice q T.length dd) T.length (dvc (nmi sq T i))
  l1 : Lo w.heap.size wr q1 e1 f1
  l2 : Lo w.heap.size wr q2 e2 f2
  k : Kp (fun b => b = B) w wr
theorem own_ne {base : Nat} {w w' : World} {e t : TypeId} {size n : Nat} {v : Value} {xs : List Value} {g : Nat} {cs : Array Value} (h : w.ownsRow base e size v n xs) (hg : w.heap[g]? = some (.cells cs t (0, 0))) (ne : e ≠ t) (hs : ∀ j, j ≠ g → w'.heap[j]? = w.heap[j]?) : w'.ownsRow base e size v n xs :=
  own_same h (fun j hj => hs j (by obtain ⟨cc, ec⟩ := own_ty h hj; exact row_ne ec hg ne))
theorem publish_ok (B d : Nat) (sq : Int) (p1 p2 pb ps pe : Option Addr) (c1 c2 cb cs ce : Nat) (l1 l2 lb ls : List Lv) (le : List Ev) (w : World) (h : Pb w B d sq p1 c1 l1 p2 c2 l2) (hb : Rl w pb cb lb) (hs : Rl w ps cs ls) (he : Re w pe ce le) (hl : le.length * 104 ≤ 140737488355328) (hok : pubOk lb ls le = true) :
    Calls Try.prog 11 #[.pointer (some ⟨B, 0, none⟩), .slice pb lb.length cb, .slice ps ls.length cs, .slice pe le.length ce] w fun e w' => ∃ q dd q1 e1 q2 e2, e = .returned (.tuple #[.slice q (pubT d l1 l2 lb ls le).length dd, .int .i64 0]) ∧ Dw w.heap.size w' q dd (nmb sq (pubT d l1 l2 lb ls le)) ∧ w'.heap[B]? = some (.cells #[.int .i64 d, .int .u64 (uw (sq + (pubT d l1 l2 lb ls le).length)), .slice q1 (lb.take d).length e1, .slice q2 (ls.take d).length e2] 73 (0, 0)) ∧ Lo w.heap.size w' q1 e1 (lb.take d) ∧ Lo w.heap.size w' q2 e2 (ls.take d) ∧ Kp (fun b => b = B) w w' := by
  have CT := hid (trades_any pe ce le w he hl)
  have CL := hid (fun (U : World) (hU : Below w.heap.size w U) => canBeLevels_any pb ps cb cs lb ls U (hb.on hU) (hs.on hU))
  have hT := trd_len le
  unfold pubOk at hok
  simp only [Bool.and_eq_true] at hok
  rw [hok.1] at CT
  rw [hok.2.1, hok.2.2] at CL
  have F1 := hid (fun (U : World) (hU : Below w.heap.size w U) => first_any B d sq _ _ pb cb lb U (row_on h.row hU) (hb.on hU) h.d2)
  have F2 := hid (fun (U : World) (hU : Below w.heap.size w U) => first_any B d sq _ _ ps cs ls U (row_on h.row hU) (hs.on hU) h.d2)
  have hd64 := h.d2
  obtain ⟨f1, hf1⟩ : ∃ f, lb.take d = f := ⟨_, rfl⟩
  obtain ⟨f2, hf2⟩ : ∃ f, ls.take d = f := ⟨_, rfl⟩
  have lf1 : f1.length ≤ 64 := by rw [← hf1]; simp; omega
  have lf2 : f2.length ≤ 64 := by rw [← hf2]; simp; omega
  have n1 := h.n1
  have n2 := h.n2
  obtain ⟨X, hX⟩ : ∃ X, trd le = X := ⟨_, rfl⟩
  obtain ⟨Y, hY⟩ : ∃ Y, chg 1 l1 f1 = Y := ⟨_, rfl⟩
  obtain ⟨Z, hZ⟩ : ∃ Z, chg 2 l2 f2 = Z := ⟨_, rfl⟩
  have hYl : Y.length ≤ 128 := by rw [← hY]; have := chg_len 1 l1 f1; omega
  have hZl : Z.length ≤ 128 := by rw [← hZ]; have := chg_len 2 l2 f2; omega
  have CY := hid (fun (U : World) (hU : Below w.heap.size w U) (q : Option Addr) (e : Nat) (hr : Rl U q e f1) => changes_any 1 p1 q c1 e l1 f1 U (h.r1.on hU) hr (by omega))
  have CZ := hid (fun (U : World) (hU : Below w.heap.size w U) (q : Option Addr) (e : Nat) (hr : Rl U q e f2) => changes_any 2 p2 q c2 e l2 f2 U (h.r2.on hU) hr (by omega))
  rw [hf1] at F1
  rw [hf2] at F2
  rw [hX] at CT hT
  rw [hY] at CY
  rw [hZ] at CZ
  have hP : pubT d l1 l2 lb ls le = X ++ Y ++ Z := by unfold pubT; rw [hX, hf1, hf2, hY, hZ]
  obtain ⟨T, hT'⟩ : ∃ T, X ++ Y ++ Z = T := ⟨_, rfl⟩
  obtain ⟨n, hn⟩ : ∃ n, T.length = n := ⟨_, rfl⟩
  have HTT := hid hT'
  have HTL := hid hn
  rw [hP, hf1, hf2, hT', hn]
  have HROW := hid h.row
  have HSQ := hid h.sq
  clear hb hs he hok hf1 hf2 hX hY hZ hP h hT' hn
  obtain ⟨nX, hnX⟩ : ∃ n, X.length = n := ⟨_, rfl⟩
  obtain ⟨nY, hnY⟩ : ∃ n, Y.length = n := ⟨_, rfl⟩
  obtain ⟨nZ, hnZ⟩ : ∃ n, Z.length = n := ⟨_, rfl⟩
  have HNX := hid hnX
  have HNY := hid hnY
  have HNZ := hid hnZ
  rw [hnX] at CT hT
  rw [hnY] at CY hYl
  rw [hnZ] at CZ hZl
  clear hnX hnY hnZ
  go_enter Try.func11, Try.ntmps11
  go_upto_region 2 with (go_at_call 30; with_reducible refine (CT.out).mono ?_; rintro e w1 ⟨hb, ⟨h, _⟩ | ⟨_, q, dd, rfl, hd⟩⟩; (cases h); have HB1 := hid hb; have HX1 := hid hd; clear hb hd)
  go_upto_region 4 with (go_at_call 31; with_reducible refine (CL.out _ HB1.out).mono ?_; rintro e w2 ⟨rfl, hb⟩; have HB2 := hid (btr HB1.out hb); have HX2 := hid (HX1.out.on hb); clear hb)
  clear HB1 HX1 CT CL
  go_upto_region 5 with (first | (go_at_call 32; with_reducible refine (F1.out w2 HB2.out).mono ?_; rintro e w3 ⟨q1, e1, rfl, hl1, hb⟩; have HB3 := hid (btr HB2.out hb); have HX3 := hid (HX2.out.on hb); have HL1 := hid (hl1.base HB2.out.size); clear hb hl1 F1) | (go_at_call 32; with_reducible refine (F2.out w3 HB3.out).mono ?_; rintro e w4 ⟨q2, e2, rfl, hl2, hb⟩; have HB4 := hid (btr HB3.out hb); have HX4 := hid (HX3.out.on hb); have HL1b := hid (HL1.out.on hb); have HL2 := hid (hl2.base HB3.out.size); clear hb hl2))
  clear HB2 HX2 HB3 HX3 HL1
  obtain ⟨nf1, hnf1⟩ : ∃ n, f1.length = n := ⟨_, rfl⟩
  obtain ⟨nf2, hnf2⟩ : ∃ n, f2.length = n := ⟨_, rfl⟩
  have HF1 := hid hnf1
  have HF2 := hid hnf2
  rw [hnf1, hnf2]
  have CY1 := hid (CY.out w4 HB4.out q1 e1 HL1b.out.rl)
  rw [hnf1] at CY1
  clear CY hnf1 hnf2
  obtain ⟨k0, k1, k2, k3⟩ := row4 (row_on HROW.out HB4.out)
  obtain ⟨na1, hna1⟩ : ∃ n, l1.length = n := ⟨_, rfl⟩
  obtain ⟨na2, hna2⟩ : ∃ n, l2.length = n := ⟨_, rfl⟩
  rw [hna1] at k2 CY1 n1
  rw [hna2] at k3 CZ n2
  have HA1 := hid hna1
  have HA2 := hid hna2
  have HLY := hid (dvc_len Y)
  have HLZ := hid (dvc_len Z)
  rw [HNY.out] at HLY
  rw [HNZ.out] at HLZ
  clear hna1 hna2
  have HXo := hid (show w4.ownsRow w.heap.size 47 6 (.slice q nX dd) nX (dvc X) from by have := HX4.out; unfold Dw at this; rw [HNX.out] at this; exact this)
  clear HX4
  go_upto_region 6 with (first | (go_at_call 33; with_reducible refine (CY1.out).mono ?_; rintro e w5 ⟨qy, dy, rfl, hd, hb⟩; have HB5 := hid (btr HB4.out hb); have HB45 := hid hb; have HX5 := hid (own_on HXo.out hb); have HY5 := hid (show w5.ownsRow w4.heap.size 47 6 (.slice qy nY dy) nY (dvc Y) from by unfold Dw at hd; rw [HNY.out] at hd; exact hd); clear hb hd) | (at_builtin; refine wpList_app_rd (by rfl) (.tmp 32) (.tmp 39) 39 47 _ 6 48 (by rfl) Try.underlying39 infoD6 rfl (by decide) w.heap.size _ nX (dvc X) (by rfl) HX5.out qy dy nY (dvc Y) (by rfl) (own_cap HY5.out).2.2 HLY.out (fun ad e => by subst e; exact (own_cells HY5.out).2) (dvc_one _) (by unfold maxLen; omega) (by omega) HB5.out.size ?_; intro v' w6 hown hgrow; obtain ⟨q6, d6, rfl⟩ := own_form hown; have HO6 := hid (show w6.ownsRow w.heap.size 47 6 (.slice q6 (nX + nY) d6) (nX + nY) (dvc (X ++ Y)) from by rw [dvc_app]; exact hown); have HB6 := hid (below_grown (base := 0) HB5.out HX5.out hgrow); have HG6 := hid hgrow; clear hown hgrow))
  have HL16 := hid (show Lo w.heap.size w6 q1 e1 f1 from own_same (HL1b.out.on HB45.out) (fun j hj => HG6.out.block j (by obtain ⟨cc, ec⟩ := own_ty (HL1b.out.on HB45.out) hj; exact row_lt ec) (by
    intro e
    obtain ⟨cc, ec⟩ := own_ty (HL1b.out.on HB45.out) hj
    obtain ⟨c5, e5⟩ := own_ty HX5.out e.symm
    exact absurd rfl (row_ne ec e5 (by decide)))))
  have HL26 := hid (show Lo w.heap.size w6 q2 e2 f2 from own_same (HL2.out.on HB45.out) (fun j hj => HG6.out.block j (by obtain ⟨cc, ec⟩ := own_ty (HL2.out.on HB45.out) hj; exact row_lt ec) (by
    intro e
    obtain ⟨cc, ec⟩ := own_ty (HL2.out.on HB45.out) hj
    obtain ⟨c5, e5⟩ := own_ty HX5.out e.symm
    exact absurd rfl (row_ne ec e5 (by decide)))))
  have CZ1 := hid (CZ.out w6 HB6.out q2 e2 HL26.out.rl)
  rw [HF2.out] at CZ1
  clear CZ CY1 HL1b HL2 HX5 HY5 HG6 HB45 HXo HB4 HB5 k0 k1 k2 k3
  obtain ⟨k0, k1, k2, k3⟩ := row4 (row_on HROW.out HB6.out)
  rw [HA2.out] at k3
  obtain ⟨nXY, hnXY⟩ : ∃ n, nX + nY = n := ⟨_, rfl⟩
  rw [hnXY] at HO6 ⊢
  have HXY := hid hnXY
  clear hnXY
  have bXY : nXY ≤ nX + 128 := by have := HXY.out; omega
  go_upto_region 7 with (first | (go_at_call 33; with_reducible refine (CZ1.out).mono ?_; rintro e w7 ⟨qz, dz, rfl, hd, hb⟩; have HB7 := hid (btr HB6.out hb); have HB67 := hid hb; have HX7 := hid (own_on HO6.out hb); have HZ7 := hid (show w7.ownsRow w6.heap.size 47 6 (.slice qz nZ dz) nZ (dvc Z) from by unfold Dw at hd; rw [HNZ.out] at hd; exact hd); clear hb hd) | (at_builtin; refine wpList_app_rd (by rfl) (.tmp 41) (.tmp 48) 39 47 _ 6 48 (by rfl) Try.underlying39 infoD6 rfl (by decide) w.heap.size _ nXY (dvc (X ++ Y)) (by rfl) HX7.out qz dz nZ (dvc Z) (by rfl) (own_cap HZ7.out).2.2 HLZ.out (fun ad e => by subst e; exact (own_cells HZ7.out).2) (dvc_one _) (by unfold maxLen; omega) (by omega) HB7.out.size ?_; intro v' w8 hown hgrow; obtain ⟨q8, d8, rfl⟩ := own_form hown; have HO8 := hid (show w8.ownsRow w.heap.size 47 6 (.slice q8 (nXY + nZ) d8) (nXY + nZ) (dvc (X ++ Y ++ Z)) from by rw [dvc_app]; exact hown); have HB8 := hid (below_grown (base := 0) HB7.out HX7.out hgrow); have HG8 := hid hgrow; clear hown hgrow))
  have HL18 := hid (show Lo w.heap.size w8 q1 e1 f1 from own_same (HL16.out.on HB67.out) (fun j hj => HG8.out.block j (by obtain ⟨cc, ec⟩ := own_ty (HL16.out.on HB67.out) hj; exact row_lt ec) (by
    intro e
    obtain ⟨cc, ec⟩ := own_ty (HL16.out.on HB67.out) hj
    obtain ⟨c5, e5⟩ := own_ty HX7.out e.symm
    exact absurd rfl (row_ne ec e5 (by decide)))))
  have HL28 := hid (show Lo w.heap.size w8 q2 e2 f2 from own_same (HL26.out.on HB67.out) (fun j hj => HG8.out.block j (by obtain ⟨cc, ec⟩ := own_ty (HL26.out.on HB67.out) hj; exact row_lt ec) (by
    intro e
    obtain ⟨cc, ec⟩ := own_ty (HL26.out.on HB67.out) hj
    obtain ⟨c5, e5⟩ := own_ty HX7.out e.symm
    exact absurd rfl (row_ne ec e5 (by decide)))))
  have hn : nXY + nZ = n := by rw [← HTL.out, ← HTT.out, List.length_append, List.length_append, HNX.out, HNY.out, HNZ.out, HXY.out]
  rw [hn] at HO8 ⊢
  rw [HTT.out] at HO8
  have hnb : n ≤ nX + 256 := by omega
  have ST := hid (show Nu w B d sq (.slice p1 l1.length c1) (.slice p2 l2.length c2) T q8 d8 q1 e1 f1 q2 e2 f2 0 sq w8 from ⟨row_on HROW.out HB8.out, by rw [show sq + ((0 : Nat) : Int) = sq by omega, uw_id HSQ.out], by rw [nmi_zero, HTL.out]; exact HO8.out, HL18.out, HL28.out, Kp.of _ HB8.out⟩)
  clear hn HL16 HL26 HX7 HZ7 HG8 HB67 CZ1 k0 k1 k2 k3 HO6 HB6 HB7 HLY HLZ HXY bXY HNX HNY HNZ HL18 HL28 HO8 HB8 hYl hZl
  go_wp2
  go_loopw [52] (fun iv wr => ∃ (i : Nat) (x : Int), i ≤ n ∧ iv = .int .i64 i ∧ Hid (Nu w B d sq (.slice p1 l1.length c1) (.slice p2 l2.length c2) T q8 d8 q1 e1 f1 q2 e2 f2 i x wr)) (fun iv _ => n - (intOf iv).toNat)
  case atStart => exact ⟨0, sq, by omega, rfl, ST.out⟩
  case round =>
    obtain ⟨i, x, hi, rfl, HC⟩ := hrel
    clear ST
    by_cases hlt : i < n
    · obtain ⟨g, cur, eq8, hg1, hg2, hg3, hg4, hg5⟩ := own_at HC.out.o (by rw [HTL.out]; omega)
      subst eq8
      have k1 := row_cell HC.out.row 1
      have kf := row_frz HC.out.row 1
      have hiT : i < T.length := by rw [HTL.out]; exact hlt
      obtain ⟨y, hy⟩ : ∃ y, IntKind.u64.wrap (x + 1) = y := ⟨_, rfl⟩
      have HY := hid (show y = uw (sq + i + 1) from by rw [← hy, HC.out.x, uw_succ])
      have HGB := hid (show g ≠ B from row_ne hg2 HC.out.row (by decide))
      obtain ⟨U1, hU1⟩ : ∃ U1, wr.setCell ⟨B, 1, none⟩ (.int .u64 y) = U1 := ⟨_, rfl⟩
      have HU1 := hid hU1
      have HGU := hid (show U1.heap[g]? = some (.cells cur 47 (0, 0)) from by rw [← hU1]; exact set_oth _ hg2 HGB.out)
      have HRU := hid (show U1.heap[B]? = some (.cells #[.int .i64 d, .int .u64 y, .slice p1 l1.length c1, .slice p2 l2.length c2] 73 (0, 0)) from by rw [← hU1]; exact set_row _ HC.out.row)
      have HOU := hid (show U1.ownsRow w.heap.size 47 6 (.slice (some ⟨g, 0, none⟩) T.length d8) T.length (dvc (nmi sq T i)) from by rw [← hU1]; exact own_ne HC.out.o HC.out.row (by decide) (fun j hj => heap_setCell_other _ _ _ _ hj))
      have HOUn := hid (show U1.ownsRow w.heap.size 47 6 (.slice (some ⟨g, 0, none⟩) n d8) n (dvc (nmi sq T i)) from by have := HOU.out; rw [HTL.out] at this; exact this)
      have HL1U := hid (show Lo w.heap.size U1 q1 e1 f1 from by rw [← hU1]; exact own_ne HC.out.l1 HC.out.row (by decide) (fun j hj => heap_setCell_other _ _ _ _ hj))
      have HL2U := hid (show Lo w.heap.size U1 q2 e2 f2 from by rw [← hU1]; exact own_ne HC.out.l2 HC.out.row (by decide) (fun j hj => heap_setCell_other _ _ _ _ hj))
      have HKU := hid (show Kp (fun b => b = B) w U1 from by rw [← hU1]; exact HC.out.k.trans (Kp.set _ _ _ _) (fun _ _ h => h))
      have hlen : i * 6 < cur.size := by have := hg3; rw [HTL.out] at this; omega
      obtain ⟨cv, hcv⟩ : ∃ cv, cur[i * 6]? = some cv := ⟨_, Array.getElem?_eq_getElem hlen⟩
      have i0 : (0 : Int) ≤ (i : Int) := by omega
      have i1 : (i : Int) < (n : Int) := by omega
      have HG1 := hid hg1
      rw [HTL.out] at hg3
      unfold maxLen at hg4
      clear hU1 hg1 hg2 hg5 hlen
      go_upto_region 11 with fail
      rw [HU1.out]
      have z1 := row_cell HRU.out 1
      have z2 : U1.cell? ⟨g, i * 6, none⟩ = some cv := by rw [row_cell HGU.out]; exact hcv
      have z3 := row_frz HGU.out (i * 6)
      go_wp2
      go_roundw
      case rel =>
        refine ⟨i + 1, y, by omega, by go_num, ?_⟩
        refine ⟨set_oth _ HRU.out (Ne.symm HGB.out), by rw [HY.out]; congr 1; omega, ?_, ?_, ?_, ?_⟩
        · have := own_setc (j := i * 6) (u := .int .u64 y) HOU.out (by rw [HTL.out]; omega)
          rw [nmi_succ sq T i hiT, dvc_set _ i _ (nmi_get sq T i hiT), ← HY.out]
          exact this
        · exact own_ne HL1U.out HGU.out (by decide) (fun j hj => heap_setCell_other _ _ _ _ hj)
        · exact own_ne HL2U.out HGU.out (by decide) (fun j hj => heap_setCell_other _ _ _ _ hj)
        · exact HKU.out.trans (Kp.set _ _ _ _) (fun b hb e => by have := HG1.out; omega)
      case measure => simp [intOf]; omega
    · obtain rfl : i = n := by omega
      obtain ⟨k0, k1, k2, k3⟩ := row4 HC.out.row
      have f2' := row_frz HC.out.row 2
      have f3' := row_frz HC.out.row 3
      go_upto_region 13 with fail
      obtain ⟨V1, hV1⟩ : ∃ V1, wr.setCell ⟨B, 2, none⟩ (.slice q1 nf1 e1) = V1 := ⟨_, rfl⟩
      have HV1 := hid hV1
      have HRV := hid (show V1.heap[B]? = some (.cells #[.int .i64 d, .int .u64 x, .slice q1 nf1 e1, .slice p2 l2.length c2] 73 (0, 0)) from by rw [← hV1]; exact set_row _ HC.out.row)
      have z3 := row_cell HRV.out 3
      have z4 := row_frz HRV.out 3
      go_wp2
      go_ret2
      refine ⟨q8, d8, q1, e1, q2, e2, rfl, ?_, ?_, ?_, ?_, ?_⟩
      · have a : Dw w.heap.size V1 q8 d8 (nmb sq T) := by
          rw [← HV1.out]
          unfold Dw
          have := own_ne (w' := wr.setCell ⟨B, 2, none⟩ (.slice q1 nf1 e1)) HC.out.o HC.out.row (by decide) (fun j hj => heap_setCell_other _ _ _ _ hj)
          rw [← HTL.out, nmi_all] at this
          rw [nmb_len]
          exact this
        exact own_ne a HRV.out (by decide) (fun j hj => heap_setCell_other _ _ _ _ hj)
      · have e5 : x = uw (sq + i) := HC.out.x
        rw [HF1.out, HF2.out, ← e5]
        exact set_row _ HRV.out
      · have a : Lo w.heap.size V1 q1 e1 f1 := by rw [← HV1.out]; exact own_ne HC.out.l1 HC.out.row (by decide) (fun j hj => heap_setCell_other _ _ _ _ hj)
        exact own_ne a HRV.out (by decide) (fun j hj => heap_setCell_other _ _ _ _ hj)
      · have a : Lo w.heap.size V1 q2 e2 f2 := by rw [← HV1.out]; exact own_ne HC.out.l2 HC.out.row (by decide) (fun j hj => heap_setCell_other _ _ _ _ hj)
        exact own_ne a HRV.out (by decide) (fun j hj => heap_setCell_other _ _ _ _ hj)
      · have a : Kp (fun b => b = B) w V1 := by rw [← HV1.out]; exact HC.out.k.trans (Kp.set _ _ _ _) (fun _ _ h => h)
        exact a.trans (Kp.set _ _ _ _) (fun _ _ h => h)
end Go.Proofs.Ytojmcfkbekodpaa.Fd
