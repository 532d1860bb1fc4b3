/-
  A side's levels behind a message, plain.
-/
import Derived.Test.YtojmcfkbekodpaaPq
import Derived.Test.YtojmcfkbekodpaaPp
import Derived.Test.YtojmcfkbekodpaaPr
import Derived.Test.YtojmcfkbekodpaaPk
import Derived.Deep.MidRow
namespace Go.Proofs.Ytojmcfkbekodpaa.Fd
open Go.RowKit Go.Deep
/-- the document's way: level by level. -/
def dnl (s : Int) (v : Lv) : Bool → List Lv → List Lv
  | put, [] => if put then [] else [v]
  | put, y :: l => (if !put && !bt s y.pr v.pr then [v] else []) ++ ((if y.pr = v.pr then [] else [y]) ++ dnl s v (put || !bt s y.pr v.pr) l)
theorem dnl_lo {s : Int} {v : Lv} {a r : List Lv} (put : Bool) (h : ∀ y ∈ a, bt s y.pr v.pr = true) : dnl s v put (a ++ r) = a ++ dnl s v put r := by
  induction a with
  | nil => rfl
  | cons y a ih =>
    have hy := h y (by simp)
    have hn : y.pr ≠ v.pr := bt_ne hy
    simp only [List.cons_append, dnl, hy, if_neg hn]
    simp [ih (fun z hz => h z (by simp [hz]))]
theorem dnl_put {s : Int} {v : Lv} {r : List Lv} (h : ∀ y ∈ r, y.pr ≠ v.pr) : dnl s v true r = r := by
  induction r with
  | nil => rfl
  | cons y r ih =>
    simp only [dnl, if_neg (h y (by simp))]
    simp [ih (fun z hz => h z (by simp [hz]))]
theorem dnl_plc {s : Int} {l : List Lv} {v : Lv} {i : Nat} {b : Bool} (h : Plc s l v.pr i b) (hl : Lok s l) (put : Bool) : dnl s v put l = l.take i ++ ((if put then [] else [v]) ++ l.drop (if b then i + 1 else i)) := by
  have e : dnl s v put l = l.take i ++ dnl s v put (l.drop i) := by
    conv => lhs; rw [← List.take_append_drop i l]
    refine dnl_lo put (fun y hy => ?_)
    obtain ⟨k, hk, rfl⟩ := List.getElem_of_mem hy
    rw [List.getElem_take]
    rw [List.length_take] at hk
    exact h.lo k (by omega) (by omega)
  rw [e]
  congr 1
  by_cases hi : i < l.length
  · have hy := h.hi i hi (Nat.le_refl _)
    have hr : ∀ y ∈ l.drop (i + 1), y.pr ≠ v.pr := fun y hy' => by
      obtain ⟨k, hk, rfl⟩ := List.getElem_of_mem hy'
      rw [List.getElem_drop]
      rw [List.length_drop] at hk
      have h1 := hl.lt (i := i) (j := i + 1 + k) (by omega) (by omega)
      intro e
      rw [e, hy] at h1
      cases h1
    rw [List.drop_eq_getElem_cons hi]
    simp only [dnl, hy]
    have hp : (put || !false) = true := by simp
    rw [hp, dnl_put hr]
    cases hb : b with
    | true =>
      obtain ⟨_, hx⟩ := h.b.1 hb
      cases put <;> simp [hx]
    | false =>
      have hx : l[i].pr ≠ v.pr := fun hx => by
        have := h.b.2 ⟨hi, hx⟩
        rw [hb] at this
        cases this
      cases put <;> simp [hx]
  · have hb : b = false := by
      cases hb : b with
      | false => rfl
      | true => exact absurd (h.b.1 hb).1 hi
    have hd : l.drop i = [] := List.drop_eq_nil_of_le (by omega)
    rw [hb]
    simp only [hd]
    cases put <;> simp [dnl, hd]
/-- a level that is gone, told of or new: the list by its place. -/
theorem dnl_gone_in {s : Int} {l : List Lv} {v : Lv} {i : Nat} (h : Plc s l v.pr i true) (hl : Lok s l) : dnl s v true l = l.eraseIdx i := by
  rw [dnl_plc h hl, List.eraseIdx_eq_take_drop_succ]
  simp
theorem dnl_gone_out {s : Int} {l : List Lv} {v : Lv} {i : Nat} (h : Plc s l v.pr i false) (hl : Lok s l) : dnl s v true l = l := by
  rw [dnl_plc h hl]
  simp
theorem dnl_set {s : Int} {l : List Lv} {v : Lv} {i : Nat} (h : Plc s l v.pr i true) (hl : Lok s l) : dnl s v false l = l.set i v := by
  obtain ⟨hi, _⟩ := h.b.1 rfl
  rw [dnl_plc h hl, List.set_eq_take_append_cons_drop, if_pos hi]
  simp
theorem dnl_new {s : Int} {l : List Lv} {v : Lv} {i : Nat} (h : Plc s l v.pr i false) (hl : Lok s l) : dnl s v false l = l.take i ++ v :: l.drop i := by
  rw [dnl_plc h hl]
  simp
end Go.Proofs.Ytojmcfkbekodpaa.Fd
namespace Go.Proofs.Ytojmcfkbekodpaa.Fd
open Go.RowKit Go.Deep
set_option linter.unusedVariables false
set_option linter.unusedSimpArgs false
set_option maxHeartbeats 8000000
set_option maxRecDepth 100000
def lvD (d : Dm) : Lv := ⟨d.pr, d.qt, d.ct⟩
theorem dnl_len (s : Int) (v : Lv) (put : Bool) (l : List Lv) : (dnl s v put l).length ≤ l.length + 1 := by
  induction l generalizing put with
  | nil => cases put <;> simp [dnl]
  | cons y l ih =>
    have a := ih (put || !bt s y.pr v.pr)
    have b : put = true → (dnl s v true l).length ≤ l.length + 1 := fun _ => ih true
    have c : ∀ l : List Lv, (dnl s v true l).length ≤ l.length := fun l => by
      induction l with
      | nil => simp [dnl]
      | cons z l ih => simp only [dnl, List.length_append]; simp; split <;> simp <;> omega
    have c' := c l
    simp only [dnl, List.length_append]
    cases put <;> cases hb : bt s y.pr v.pr <;> simp [hb] at a ⊢ <;> split <;> simp <;> omega
theorem dnl_cons_t {s : Int} {v y : Lv} {l : List Lv} : dnl s v true (y :: l) = (if y.pr = v.pr then [] else [y]) ++ dnl s v true l := by simp [dnl]
theorem dnl_cons_lo {s : Int} {v y : Lv} {l : List Lv} (h : bt s y.pr v.pr = true) : dnl s v false (y :: l) = [y] ++ dnl s v false l := by
  have := bt_ne h
  simp [dnl, h, this]
theorem dnl_cons_in {s : Int} {v y : Lv} {l : List Lv} (h : bt s y.pr v.pr = false) : dnl s v false (y :: l) = [v] ++ ((if y.pr = v.pr then [] else [y]) ++ dnl s v true l) := by
  simp [dnl, h]
theorem rdone_any (d : Dm) (p : Option Addr) (c : Nat) (l : List Lv) (w : World) (h : Rl w p c l) (hl : l.length ≤ 262144) :
    Calls Try.prog 67 #[.slice p l.length c, .agg #[.int .u64 d.sq, .int .i64 d.kd, .int .i64 d.sd, .int .i64 d.pr, .int .u64 d.qt, .int .i64 d.ct]] w fun e w' => ∃ q c', e = .returned (.slice q (dnl d.sd (lvD d) (d.ct == 0) l).length c') ∧ Lo w.heap.size w' q c' (dnl d.sd (lvD d) (d.ct == 0) l) ∧ Below w.heap.size w w' := by
  have hmax := h.max
  have hcap := h.cap
  unfold maxLen at hmax
  obtain ⟨n, hn⟩ : ∃ n, l.length = n := ⟨_, rfl⟩
  have HN := hid hn
  have HLEN := hid (show (dnl d.sd (lvD d) (d.ct == 0) l).length ≤ n + 1 from by rw [← hn]; exact dnl_len _ _ _ _)
  rw [hn] at hcap hl ⊢
  obtain ⟨R, hR⟩ : ∃ R, w.heap.size = R := ⟨_, rfl⟩
  obtain ⟨W, hW⟩ : ∃ W, w.alloc (.cells #[.int .u64 d.sq, .int .i64 d.kd, .int .i64 d.sd, .int .i64 d.pr, .int .u64 d.qt, .int .i64 d.ct] 47) = W := ⟨_, rfl⟩
  have hb0 : Below w.heap.size w W := by rw [← hW]; exact ball _ _
  have HD := hid (show W.heap[R]? = some (.cells #[.int .u64 d.sq, .int .i64 d.kd, .int .i64 d.sd, .int .i64 d.pr, .int .u64 d.qt, .int .i64 d.ct] 47 (0, 0)) from by rw [← hW, ← hR]; exact World.alloc_heap_new _ _)
  have HL := hid (h.on hb0)
  have HB0 := hid hb0
  have HW := hid hW
  have HR := hid hR
  obtain ⟨k0, k1, k2, k3, k4, k5⟩ := row6 HD.out
  clear h hn hb0 hW hR
  go_enter Try.func67, Try.ntmps67
  go_upto_region 1 with fail
  rw [HW.out, HR.out]
  go_wp2
  go_loopw [5, 6, 7] (fun ov pv iv wr => ∃ (i : Nat) (put : Bool) (q : Option Addr) (m dd : Nat) (acc : List Lv), i ≤ n ∧ ov = .slice q m dd ∧ pv = .bool put ∧ iv = .int .i64 i ∧ Hid (m = acc.length) ∧ Hid (wr.ownsRow W.heap.size 71 3 (.slice q m dd) m (lvc acc)) ∧ Hid (acc ++ dnl d.sd (lvD d) put (l.drop i) = dnl d.sd (lvD d) (d.ct == 0) l) ∧ Hid (Below W.heap.size W wr)) (fun _ _ iv _ => n - (intOf iv).toNat)
  case atStart => exact ⟨0, d.ct == 0, none, 0, 0, [], by omega, rfl, rfl, rfl, rfl, own_nil _ _ _ _, rfl, Below.refl _ _⟩
  case round =>
    obtain ⟨i, put, q, m, dd, acc, hi, rfl, rfl, rfl, HM, HO, HE, HB⟩ := hrel
    clear k0 k1 k2 k3 k4 k5
    have hm : m ≤ 262145 := by
      have a := HLEN.out
      rw [← HE.out, List.length_append, ← HM.out] at a
      omega
    by_cases hlt : i < n
    · have hil : i < l.length := by have := HN.out; omega
      have HDR := hid (show l.drop i = l[i] :: l.drop (i + 1) from List.drop_eq_getElem_cons hil)
      obtain ⟨g, o, rfl, sg, a0, a1, a2⟩ := (HL.out.on HB.out).cells hil
      obtain ⟨y, hy⟩ : ∃ y, l[i] = y := ⟨_, rfl⟩
      rw [hy] at a0 a1 a2 HDR
      have HCE := hid (show ∀ U, Below W.heap.size W U → U.cell? ⟨g, o + i * 3, none⟩ = some (.int .i64 y.pr) ∧ U.cell? ⟨g, o + i * 3 + 1, none⟩ = some (.int .u64 y.qt) ∧ U.cell? ⟨g, o + i * 3 + 2, none⟩ = some (.int .i64 y.ct) from fun U hU => by
        obtain ⟨g', o', e, _, b0, b1, b2⟩ := (HL.out.on hU).cells hil
        injection e with e
        injection e with e1 e2
        subst e1 e2
        rw [hy] at b0 b1 b2
        exact ⟨b0, b1, b2⟩)
      have i0 : (0 : Int) ≤ (i : Int) := by omega
      have i1 : (i : Int) < (n : Int) := by omega
      have WO := hid (fun (U : World) => worse_any d.sd d.pr y.pr U)
      obtain ⟨k0, k1, k2, k3, k4, k5⟩ := row6 (row_on HD.out HB.out)
      clear hy sg
      cases put with
      | true =>
        go_upto_region 6 with fail
        go_quiet (fail)
        go_upto_region 9 with fail
        obtain ⟨V, hV⟩ : ∃ V, wr.drewN nq = V := ⟨_, rfl⟩
        have BV := hid (show Below W.heap.size W V from by rw [← hV]; exact btr HB.out (bdrew _ _))
        have HOV := hid (show V.ownsRow W.heap.size 71 3 (.slice q m dd) m (lvc acc) from by rw [← hV]; exact own_on HO.out (bdrew _ _))
        rw [hV]
        clear hV k0 k1 k2 k3 k4 k5 a0 a1 a2
        obtain ⟨k0, k1, k2, k3, k4, k5⟩ := row6 (row_on HD.out BV.out)
        obtain ⟨a0, a1, a2⟩ := HCE.out V BV.out
        by_cases hx : y.pr = d.pr
        · have q1 : (y.pr != d.pr) = false := by simpa using hx
          have HX := hid hx
          clear hx
          go_quiet (fail)
          go_wp2
          go_roundw
          case rel => exact ⟨i + 1, true, q, m, dd, acc, by omega, rfl, rfl, by go_num, HM.out, own_on HOV.out (bdrew _ _), by have := HE.out; rw [HDR.out, dnl_cons_t, if_pos (show y.pr = (lvD d).pr from HX.out)] at this; exact this, btr BV.out (bdrew _ _)⟩
          case measure => simp [intOf]; omega
        · have q1 : (y.pr != d.pr) = true := by simpa using hx
          have HX := hid hx
          clear hx
          go_quiet (fail)
          go_upto_region 10 with fail
          obtain ⟨V2, hV2⟩ : ∃ V2, V.drewN nq = V2 := ⟨_, rfl⟩
          have BV2 := hid (show Below W.heap.size W V2 from by rw [← hV2]; exact btr BV.out (bdrew _ _))
          have HO2 := hid (show V2.ownsRow W.heap.size 71 3 (.slice q m dd) m (lvc acc) from by rw [← hV2]; exact own_on HOV.out (bdrew _ _))
          rw [hV2]
          clear hV2 k0 k1 k2 k3 k4 k5 a0 a1 a2
          obtain ⟨a0, a1, a2⟩ := HCE.out V2 BV2.out
          have HOv := hid (own_on HO2.out (ball V2 (.cells #[.int .i64 y.pr, .int .u64 y.qt, .int .i64 y.ct] 71)))
          have HBv := hid (btr BV2.out (ball V2 (.cells #[.int .i64 y.pr, .int .u64 y.qt, .int .i64 y.ct] 71)))
          have RN := hid (rdl_new V2 y)
          have HLN := hid (lvc_len [y])
          go_wp2_with (at_builtin; refine wpList_app_rd (by rfl) (.tmp 50) (.tmp 55) 42 71 _ 3 24 (by rfl) Try.underlying42 infoL3 rfl (by decide) W.heap.size _ m (lvc acc) (by rfl) HOv.out (some ⟨V2.heap.size, 0, none⟩) 1 1 (lvc [y]) (by rfl) (fun e => by cases e) HLN.out RN.out (lvc_one _) (by unfold maxLen; omega) (by omega) HBv.out.size ?_; intro v' U3 hown hgrow; obtain ⟨q3, d3, rfl⟩ := own_form hown; have HO3 := hid hown; have HB3 := hid (below_grown (base := 0) HBv.out HOv.out hgrow); clear hown hgrow)
          go_roundw
          case rel => exact ⟨i + 1, true, q3, m + 1, d3, acc ++ [y], by omega, rfl, rfl, by go_num, by rw [List.length_append, ← HM.out]; rfl, by rw [lvc_app]; exact HO3.out, by have := HE.out; rw [HDR.out, dnl_cons_t, if_neg (show ¬ y.pr = (lvD d).pr from HX.out), ← List.append_assoc] at this; exact this, HB3.out⟩
          case measure => simp [intOf]; omega
      | false =>
        cases hb : bt d.sd y.pr d.pr with
        | true =>
          rw [hb] at WO
          have HBT := hid hb
          go_upto_region 6 with fail
          go_quiet (first | (go_at_call 83; refine (WO.out _).mono ?_; rintro e1 u1 ⟨rfl, rfl⟩; exact ⟨rfl, _, rfl⟩))
          go_upto_region 9 with fail
          obtain ⟨V, hV⟩ : ∃ V, wr.drewN nq = V := ⟨_, rfl⟩
          have BV := hid (show Below W.heap.size W V from by rw [← hV]; exact btr HB.out (bdrew _ _))
          have HOV := hid (show V.ownsRow W.heap.size 71 3 (.slice q m dd) m (lvc acc) from by rw [← hV]; exact own_on HO.out (bdrew _ _))
          rw [hV]
          clear hV k0 k1 k2 k3 k4 k5 a0 a1 a2
          obtain ⟨k0, k1, k2, k3, k4, k5⟩ := row6 (row_on HD.out BV.out)
          obtain ⟨a0, a1, a2⟩ := HCE.out V BV.out
          have hx : y.pr ≠ d.pr := bt_ne HBT.out
          have q1 : (y.pr != d.pr) = true := by simpa using hx
          have HX := hid hx
          clear hx
          go_quiet (fail)
          go_upto_region 10 with fail
          obtain ⟨V2, hV2⟩ : ∃ V2, V.drewN nq = V2 := ⟨_, rfl⟩
          have BV2 := hid (show Below W.heap.size W V2 from by rw [← hV2]; exact btr BV.out (bdrew _ _))
          have HO2 := hid (show V2.ownsRow W.heap.size 71 3 (.slice q m dd) m (lvc acc) from by rw [← hV2]; exact own_on HOV.out (bdrew _ _))
          rw [hV2]
          clear hV2 k0 k1 k2 k3 k4 k5 a0 a1 a2
          obtain ⟨a0, a1, a2⟩ := HCE.out V2 BV2.out
          have HOv := hid (own_on HO2.out (ball V2 (.cells #[.int .i64 y.pr, .int .u64 y.qt, .int .i64 y.ct] 71)))
          have HBv := hid (btr BV2.out (ball V2 (.cells #[.int .i64 y.pr, .int .u64 y.qt, .int .i64 y.ct] 71)))
          have RN := hid (rdl_new V2 y)
          have HLN := hid (lvc_len [y])
          go_wp2_with (at_builtin; refine wpList_app_rd (by rfl) (.tmp 50) (.tmp 55) 42 71 _ 3 24 (by rfl) Try.underlying42 infoL3 rfl (by decide) W.heap.size _ m (lvc acc) (by rfl) HOv.out (some ⟨V2.heap.size, 0, none⟩) 1 1 (lvc [y]) (by rfl) (fun e => by cases e) HLN.out RN.out (lvc_one _) (by unfold maxLen; omega) (by omega) HBv.out.size ?_; intro v' U3 hown hgrow; obtain ⟨q3, d3, rfl⟩ := own_form hown; have HO3 := hid hown; have HB3 := hid (below_grown (base := 0) HBv.out HOv.out hgrow); clear hown hgrow)
          go_roundw
          case rel => exact ⟨i + 1, false, q3, m + 1, d3, acc ++ [y], by omega, rfl, rfl, by go_num, by rw [List.length_append, ← HM.out]; rfl, by rw [lvc_app]; exact HO3.out, by have := HE.out; rw [HDR.out, dnl_cons_lo HBT.out, ← List.append_assoc] at this; exact this, HB3.out⟩
          case measure => simp [intOf]; omega
        | false =>
          rw [hb] at WO
          have HBT := hid hb
          go_upto_region 6 with fail
          go_quiet (first | (go_at_call 83; refine (WO.out _).mono ?_; rintro e1 u1 ⟨rfl, rfl⟩; exact ⟨rfl, _, rfl⟩))
          go_upto_region 7 with fail
          obtain ⟨V, hV⟩ : ∃ V, wr.drewN nq = V := ⟨_, rfl⟩
          have BV := hid (show Below W.heap.size W V from by rw [← hV]; exact btr HB.out (bdrew _ _))
          have HOV := hid (show V.ownsRow W.heap.size 71 3 (.slice q m dd) m (lvc acc) from by rw [← hV]; exact own_on HO.out (bdrew _ _))
          rw [hV]
          clear hV k0 k1 k2 k3 k4 k5 a0 a1 a2
          obtain ⟨k0, k1, k2, k3, k4, k5⟩ := row6 (row_on HD.out BV.out)
          obtain ⟨a0, a1, a2⟩ := HCE.out V BV.out
          have HOv := hid (own_on HOV.out (ball V (.cells #[.int .i64 d.pr, .int .u64 d.qt, .int .i64 d.ct] 71)))
          have HBv := hid (btr BV.out (ball V (.cells #[.int .i64 d.pr, .int .u64 d.qt, .int .i64 d.ct] 71)))
          have RN := hid (rdl_new V (lvD d))
          have HLN := hid (lvc_len [lvD d])
          go_upto_region 9 with (at_builtin; refine wpList_app_rd (by rfl) (.tmp 32) (.tmp 40) 42 71 _ 3 24 (by rfl) Try.underlying42 infoL3 rfl (by decide) W.heap.size _ m (lvc acc) (by rfl) HOv.out (some ⟨V.heap.size, 0, none⟩) 1 1 (lvc [lvD d]) (by rfl) (fun e => by cases e) HLN.out RN.out (lvc_one _) (by unfold maxLen; omega) (by omega) HBv.out.size ?_; intro v' U1 hown hgrow; obtain ⟨q', d', rfl⟩ := own_form hown; have HO1 := hid hown; have HBU := hid (below_grown (base := 0) HBv.out HOv.out hgrow); clear hown hgrow)
          obtain ⟨acc2, hacc⟩ : ∃ a, acc ++ [lvD d] = a := ⟨_, rfl⟩
          have HM2 := hid (show m + 1 = acc2.length from by rw [← hacc, List.length_append, ← HM.out]; rfl)
          have HO1' := hid (show U1.ownsRow W.heap.size 71 3 (.slice q' (m + 1) d') (m + 1) (lvc acc2) from by rw [← hacc, lvc_app]; exact HO1.out)
          have HE2 := hid (show acc2 ++ dnl d.sd (lvD d) true (l.drop i) = dnl d.sd (lvD d) (d.ct == 0) l from by rw [← HE.out, ← hacc, HDR.out, dnl_cons_in HBT.out, dnl_cons_t, List.append_assoc])
          clear hacc k0 k1 k2 k3 k4 k5 a0 a1 a2
          obtain ⟨k0, k1, k2, k3, k4, k5⟩ := row6 (row_on HD.out HBU.out)
          obtain ⟨a0, a1, a2⟩ := HCE.out U1 HBU.out
          clear HOv HBv RN HLN
          by_cases hx : y.pr = d.pr
          · have q1 : (y.pr != d.pr) = false := by simpa using hx
            have HX := hid hx
            clear hx
            go_quiet (fail)
            go_wp2
            go_roundw
            case rel => exact ⟨i + 1, true, q', (m + 1), d', acc2, by omega, rfl, rfl, by go_num, HM2.out, own_on HO1'.out (bdrew _ _), by have := HE2.out; rw [HDR.out, dnl_cons_t, if_pos (show y.pr = (lvD d).pr from HX.out)] at this; exact this, btr HBU.out (bdrew _ _)⟩
            case measure => simp [intOf]; omega
          · have q1 : (y.pr != d.pr) = true := by simpa using hx
            have HX := hid hx
            clear hx
            go_quiet (fail)
            go_upto_region 10 with fail
            obtain ⟨V2, hV2⟩ : ∃ V2, U1.drewN nq = V2 := ⟨_, rfl⟩
            have BV2 := hid (show Below W.heap.size W V2 from by rw [← hV2]; exact btr HBU.out (bdrew _ _))
            have HO2 := hid (show V2.ownsRow W.heap.size 71 3 (.slice q' (m + 1) d') (m + 1) (lvc acc2) from by rw [← hV2]; exact own_on HO1'.out (bdrew _ _))
            rw [hV2]
            clear hV2 k0 k1 k2 k3 k4 k5 a0 a1 a2
            obtain ⟨a0, a1, a2⟩ := HCE.out V2 BV2.out
            have HOv := hid (own_on HO2.out (ball V2 (.cells #[.int .i64 y.pr, .int .u64 y.qt, .int .i64 y.ct] 71)))
            have HBv := hid (btr BV2.out (ball V2 (.cells #[.int .i64 y.pr, .int .u64 y.qt, .int .i64 y.ct] 71)))
            have RN := hid (rdl_new V2 y)
            have HLN := hid (lvc_len [y])
            go_wp2_with (at_builtin; refine wpList_app_rd (by rfl) (.tmp 50) (.tmp 55) 42 71 _ 3 24 (by rfl) Try.underlying42 infoL3 rfl (by decide) W.heap.size _ (m + 1) (lvc acc2) (by rfl) HOv.out (some ⟨V2.heap.size, 0, none⟩) 1 1 (lvc [y]) (by rfl) (fun e => by cases e) HLN.out RN.out (lvc_one _) (by unfold maxLen; omega) (by omega) HBv.out.size ?_; intro v' U3 hown hgrow; obtain ⟨q3, d3, rfl⟩ := own_form hown; have HO3 := hid hown; have HB3 := hid (below_grown (base := 0) HBv.out HOv.out hgrow); clear hown hgrow)
            go_roundw
            case rel => exact ⟨i + 1, true, q3, (m + 1) + 1, d3, acc2 ++ [y], by omega, rfl, rfl, by go_num, by rw [List.length_append, ← HM2.out]; rfl, by rw [lvc_app]; exact HO3.out, by have := HE2.out; rw [HDR.out, dnl_cons_t, if_neg (show ¬ y.pr = (lvD d).pr from HX.out), ← List.append_assoc] at this; exact this, HB3.out⟩
            case measure => simp [intOf]; omega
    · obtain rfl : i = n := by omega
      have hd0 : l.drop i = [] := List.drop_eq_nil_of_le (by have := HN.out; omega)
      obtain ⟨k0, k1, k2, k3, k4, k5⟩ := row6 (row_on HD.out HB.out)
      cases put with
      | true =>
        have E := hid (show acc = dnl d.sd (lvD d) (d.ct == 0) l from by rw [← HE.out, hd0]; simp [dnl])
        go_wp2
        go_ret
        refine ⟨q, dd, by rw [← E.out, ← HM.out]; rfl, ?_, btr HB0.out HB.out⟩
        rw [← E.out]
        have := HO.out
        rw [HM.out] at this
        exact Lo.base this HB0.out.size
      | false =>
        have E := hid (show acc ++ [lvD d] = dnl d.sd (lvD d) (d.ct == 0) l from by rw [← HE.out, hd0]; simp [dnl])
        have HOv := hid (own_on HO.out (ball wr (.cells #[.int .i64 d.pr, .int .u64 d.qt, .int .i64 d.ct] 71)))
        have HBv := hid (btr HB.out (ball wr (.cells #[.int .i64 d.pr, .int .u64 d.qt, .int .i64 d.ct] 71)))
        have RN := hid (rdl_new wr (lvD d))
        have HLN := hid (lvc_len [lvD d])
        go_wp2_with (at_builtin; refine wpList_app_rd (by rfl) (.tmp 59) (.tmp 67) 42 71 _ 3 24 (by rfl) Try.underlying42 infoL3 rfl (by decide) W.heap.size _ m (lvc acc) (by rfl) HOv.out (some ⟨wr.heap.size, 0, none⟩) 1 1 (lvc [lvD d]) (by rfl) (fun e => by cases e) HLN.out RN.out (lvc_one _) (by unfold maxLen; omega) (by omega) HBv.out.size ?_; intro v' U1 hown hgrow; obtain ⟨q', d', rfl⟩ := own_form hown; have HO1 := hid hown; have HBU := hid (below_grown (base := 0) HBv.out HOv.out hgrow); clear hown hgrow)
        go_ret
        have HLl := hid (show m + 1 = (acc ++ [lvD d]).length from by rw [List.length_append, ← HM.out]; rfl)
        refine ⟨q', d', by rw [← E.out, ← HLl.out]; rfl, ?_, btr HB0.out HBU.out⟩
        rw [← E.out]
        have := HO1.out
        rw [← lvc_app, HLl.out] at this
        exact Lo.base this HB0.out.size
end Go.Proofs.Ytojmcfkbekodpaa.Fd
namespace Go.Proofs.Ytojmcfkbekodpaa.Fd
open Go.RowKit Go.Deep
set_option linter.unusedVariables false
set_option linter.unusedSimpArgs false
set_option maxHeartbeats 8000000
set_option maxRecDepth 100000
/-- a slice is the old one, or one's own. -/
def Sd (w w' : World) (p : Option Addr) (c : Nat) (l : List Lv) (q : Option Addr) (e : Nat) (l' : List Lv) : Prop := (q = p ∧ e = c ∧ l' = l) ∨ Lo w.heap.size w' q e l'
/-- a side's levels behind a message. -/
def dnS (s : Int) (d : Dm) (l : List Lv) : List Lv := if d.kd = 1 ∧ d.sd = s then dnl s (lvD d) (d.ct == 0) l else l
theorem rDone_t (d : Dm) (hk : d.kd = 2) (sq : Int) (p1 p2 : Option Addr) (c1 c2 : Nat) (l1 l2 : List Lv) (w : World) (h1 : Rl w p1 c1 l1) (h2 : Rl w p2 c2 l2) (b1 : l1.length ≤ 262144) (b2 : l2.length ≤ 262144) :
    Calls Try.prog 43 #[.agg #[.int .u64 sq, .slice p1 l1.length c1, .slice p2 l2.length c2], .agg #[.int .u64 d.sq, .int .i64 d.kd, .int .i64 d.sd, .int .i64 d.pr, .int .u64 d.qt, .int .i64 d.ct]] w fun e w' => ∃ q1 e1 q2 e2, e = .returned (.agg #[.int .u64 d.sq, .slice q1 l1.length e1, .slice q2 l2.length e2]) ∧ Rl w' q1 e1 l1 ∧ Rl w' q2 e2 l2 ∧ Sd w w' p1 c1 l1 q1 e1 l1 ∧ Sd w w' p2 c2 l2 q2 e2 l2 ∧ Below w.heap.size w w' := by
  obtain ⟨n1, hn1⟩ : ∃ n, l1.length = n := ⟨_, rfl⟩
  obtain ⟨n2, hn2⟩ : ∃ n, l2.length = n := ⟨_, rfl⟩
  have HN1 := hid hn1
  have HN2 := hid hn2
  obtain ⟨R, hR⟩ : ∃ R, w.heap.size = R := ⟨_, rfl⟩
  obtain ⟨W, hW⟩ : ∃ W, ((w.alloc (.cells #[.int .u64 sq, .slice p1 n1 c1, .slice p2 n2 c2] 49)).alloc (.cells #[.int .u64 d.sq, .int .i64 d.kd, .int .i64 d.sd, .int .i64 d.pr, .int .u64 d.qt, .int .i64 d.ct] 47)).alloc (.cells #[.int .u64 0, .slice none 0 0, .slice none 0 0] 49) = W := ⟨_, rfl⟩
  obtain ⟨hb0, x0, x1, x2⟩ := alloc3 hR hW
  obtain ⟨W1, hW1⟩ : ∃ W1, W.setCell ⟨R, 0, none⟩ (.int .u64 d.sq) = W1 := ⟨_, rfl⟩
  have KW := Kp.set W R 0 (.int .u64 d.sq)
  rw [hW1] at KW
  have B1 := hid (show Below w.heap.size w W1 from hb0.trans (KW.below hb0.size (fun g hg e => by have e' : g = R := e; omega)))
  have HP := hid (show W1.heap[R]? = some (.cells #[.int .u64 d.sq, .slice p1 n1 c1, .slice p2 n2 c2] 49 (0, 0)) from by rw [← hW1]; exact set_row _ x0)
  have HD := hid (KW.row x1 (fun e => row_ne x1 x0 (by decide) e))
  have HZ := hid (KW.row x2 (fun e => by have e' : R + 1 + 1 = R := e; omega))
  have H1 := hid h1
  have H2 := hid h2
  have HL1 := hid (h1.on B1.out)
  have HL2 := hid (h2.on B1.out)
  have kw0 := row_cell x0 0
  have fw0 := row_frz x0 0
  obtain ⟨j0, j1, j2, j3, j4, j5⟩ := row6 x1
  have HR := hid hR
  have HW := hid hW
  have HW1 := hid hW1
  rw [hn1, hn2]
  have qk : (d.kd == 1) = false := by simp [hk]
  clear h1 h2 b1 b2 hb0 x0 x1 x2 hW hW1 KW hR hn1 hn2 hk
  go_enter Try.func43, Try.ntmps43
  go_upto_region 1 with fail
  rw [HW.out, HR.out]
  go_upto_region 2 with fail
  rw [HW1.out]
  clear kw0 fw0 j0 j1 j2 j3 j4 j5
  obtain ⟨k0, k1, k2⟩ := row3 HP.out
  obtain ⟨j0, j1, j2, j3, j4, j5⟩ := row6 HD.out
  have AI := hid (show (Try.prog.info? 49).map (·.size) = some (#[.int .u64 d.sq, .slice p1 n1 c1, .slice p2 n2 c2] : Array Value).size from infoP)
  have AS := hid (show (#[.int .u64 0, .slice none 0 0, .slice none 0 0] : Array Value).size = (#[.int .u64 d.sq, .slice p1 n1 c1, .slice p2 n2 c2] : Array Value).size from rfl)
  have AA := hid (show (#[.int .u64 d.sq, .slice p1 n1 c1, .slice p2 n2 c2] : Array Value).all (·.oneCell') = true from by simp [Value.oneCell'])
  go_wp2_with (refine wpList_store_row (by rfl) 49 (.tmp 4) (.tmp 34) (by rfl) (R + 1 + 1) #[.int .u64 d.sq, .slice p1 n1 c1, .slice p2 n2 c2] (by rfl) (by rfl) 49 _ HZ.out AI.out AS.out AA.out ?_)
  refine bodyPost_ret (results_cell_row (fn := Try.f43) Try.results43 _ _ (R + 1 + 1) 49 #[.int .u64 d.sq, .slice p1 n1 c1, .slice p2 n2 c2] (0, 0) _ (by rfl) (setRow_heap _ _ _ _ 49 (0, 0) HZ.out) Try.underlying49 rfl infoP) rfl ?_
  have z : Below w.heap.size w (W1.setRow (R + 1 + 1) #[.int .u64 d.sq, .slice p1 n1 c1, .slice p2 n2 c2]) := setRow_below B1.out (by have := HR.out; omega)
  exact ⟨p1, c1, p2, c2, rfl, H1.out.on z, H2.out.on z, .inl ⟨rfl, rfl, rfl⟩, .inl ⟨rfl, rfl, rfl⟩, z⟩
theorem rDone_b (d : Dm) (hk : d.kd = 1) (hs : d.sd = 1) (sq : Int) (p1 p2 : Option Addr) (c1 c2 : Nat) (l1 l2 : List Lv) (w : World) (h1 : Rl w p1 c1 l1) (h2 : Rl w p2 c2 l2) (b1 : l1.length ≤ 262144) (b2 : l2.length ≤ 262144) :
    Calls Try.prog 43 #[.agg #[.int .u64 sq, .slice p1 l1.length c1, .slice p2 l2.length c2], .agg #[.int .u64 d.sq, .int .i64 d.kd, .int .i64 d.sd, .int .i64 d.pr, .int .u64 d.qt, .int .i64 d.ct]] w fun e w' => ∃ q1 e1 q2 e2, e = .returned (.agg #[.int .u64 d.sq, .slice q1 (dnl d.sd (lvD d) (d.ct == 0) l1).length e1, .slice q2 l2.length e2]) ∧ Rl w' q1 e1 (dnl d.sd (lvD d) (d.ct == 0) l1) ∧ Rl w' q2 e2 l2 ∧ Sd w w' p1 c1 l1 q1 e1 (dnl d.sd (lvD d) (d.ct == 0) l1) ∧ Sd w w' p2 c2 l2 q2 e2 l2 ∧ Below w.heap.size w w' := by
  obtain ⟨n1, hn1⟩ : ∃ n, l1.length = n := ⟨_, rfl⟩
  obtain ⟨n2, hn2⟩ : ∃ n, l2.length = n := ⟨_, rfl⟩
  have HN1 := hid hn1
  have HN2 := hid hn2
  obtain ⟨R, hR⟩ : ∃ R, w.heap.size = R := ⟨_, rfl⟩
  obtain ⟨W, hW⟩ : ∃ W, ((w.alloc (.cells #[.int .u64 sq, .slice p1 n1 c1, .slice p2 n2 c2] 49)).alloc (.cells #[.int .u64 d.sq, .int .i64 d.kd, .int .i64 d.sd, .int .i64 d.pr, .int .u64 d.qt, .int .i64 d.ct] 47)).alloc (.cells #[.int .u64 0, .slice none 0 0, .slice none 0 0] 49) = W := ⟨_, rfl⟩
  obtain ⟨hb0, x0, x1, x2⟩ := alloc3 hR hW
  obtain ⟨W1, hW1⟩ : ∃ W1, W.setCell ⟨R, 0, none⟩ (.int .u64 d.sq) = W1 := ⟨_, rfl⟩
  have KW := Kp.set W R 0 (.int .u64 d.sq)
  rw [hW1] at KW
  have B1 := hid (show Below w.heap.size w W1 from hb0.trans (KW.below hb0.size (fun g hg e => by have e' : g = R := e; omega)))
  have HP := hid (show W1.heap[R]? = some (.cells #[.int .u64 d.sq, .slice p1 n1 c1, .slice p2 n2 c2] 49 (0, 0)) from by rw [← hW1]; exact set_row _ x0)
  have HD := hid (KW.row x1 (fun e => row_ne x1 x0 (by decide) e))
  have HZ := hid (KW.row x2 (fun e => by have e' : R + 1 + 1 = R := e; omega))
  have H1 := hid h1
  have H2 := hid h2
  have HL1 := hid (h1.on B1.out)
  have HL2 := hid (h2.on B1.out)
  have kw0 := row_cell x0 0
  have fw0 := row_frz x0 0
  obtain ⟨j0, j1, j2, j3, j4, j5⟩ := row6 x1
  have HR := hid hR
  have HW := hid hW
  have HW1 := hid hW1
  have CD := hid (rdone_any d p1 c1 l1 W1 HL1.out b1)
  rw [hn1] at CD
  rw [hn1, hn2]
  have qk : (d.kd == 1) = true := by simp [hk]
  have qs1 : (d.sd == 1) = true := by simp [hs]
  have qs2 : (d.sd == 2) = false := by simp [hs]
  clear h1 h2 b1 b2 hb0 x0 x1 x2 hW hW1 KW hR hn1 hn2 hk hs
  go_enter Try.func43, Try.ntmps43
  go_upto_region 1 with fail
  rw [HW.out, HR.out]
  go_upto_region 2 with fail
  rw [HW1.out]
  clear kw0 fw0 j0 j1 j2 j3 j4 j5
  obtain ⟨k0, k1, k2⟩ := row3 HP.out
  obtain ⟨j0, j1, j2, j3, j4, j5⟩ := row6 HD.out
  go_upto_region 3 with fail
  have f1 := row_frz HP.out 1
  go_upto_region 4 with (go_at_call 67; with_reducible refine (CD.out).mono ?_; rintro e V ⟨q, c', rfl, h1, h2⟩; have LQ := hid h1; have BV := hid h2; have HPv := hid (row_on HP.out h2); have g1 := row_cell HPv.out 1; have g2 := row_frz HPv.out 1; clear h1 h2)
  obtain ⟨nq, hnq⟩ : ∃ k, (dnl d.sd (lvD d) (d.ct == 0) l1).length = k := ⟨_, rfl⟩
  rw [hnq]
  have HNQ := hid hnq
  clear hnq
  obtain ⟨V1, hV1⟩ : ∃ V1, V.setCell ⟨R, 1, none⟩ (.slice q nq c') = V1 := ⟨_, rfl⟩
  have KV := hid (show Kp (fun g => g = R) V V1 from by rw [← hV1]; exact Kp.set _ _ _ _)
  have HP1 := hid (show V1.heap[R]? = some (.cells #[.int .u64 d.sq, .slice q nq c', .slice p2 n2 c2] 49 (0, 0)) from by rw [← hV1]; exact set_row _ HPv.out)
  have HD1 := hid (KV.out.row (row_on HD.out BV.out) (fun e => row_ne (row_on HD.out BV.out) HPv.out (by decide) e))
  have HZ1 := hid (KV.out.row (row_on HZ.out BV.out) (fun e => by have e' : R + 1 + 1 = R := e; omega))
  have HV1 := hid hV1
  rw [hV1]
  clear hV1 g1 g2 k0 k1 k2 j0 j1 j2 j3 j4 j5
  obtain ⟨k0, k1, k2⟩ := row3 HP1.out
  obtain ⟨j0, j1, j2, j3, j4, j5⟩ := row6 HD1.out
  have AI := hid (show (Try.prog.info? 49).map (·.size) = some (#[.int .u64 d.sq, .slice q nq c', .slice p2 n2 c2] : Array Value).size from infoP)
  have AS := hid (show (#[.int .u64 0, .slice none 0 0, .slice none 0 0] : Array Value).size = (#[.int .u64 d.sq, .slice q nq c', .slice p2 n2 c2] : Array Value).size from rfl)
  have AA := hid (show (#[.int .u64 d.sq, .slice q nq c', .slice p2 n2 c2] : Array Value).all (·.oneCell') = true from by simp [Value.oneCell'])
  go_wp2_with (refine wpList_store_row (by rfl) 49 (.tmp 4) (.tmp 34) (by rfl) (R + 1 + 1) #[.int .u64 d.sq, .slice q nq c', .slice p2 n2 c2] (by rfl) (by rfl) 49 _ HZ1.out AI.out AS.out AA.out ?_)
  refine bodyPost_ret (results_cell_row (fn := Try.f43) Try.results43 _ _ (R + 1 + 1) 49 #[.int .u64 d.sq, .slice q nq c', .slice p2 n2 c2] (0, 0) _ (by rfl) (setRow_heap _ _ _ _ 49 (0, 0) HZ1.out) Try.underlying49 rfl infoP) rfl ?_
  have y : Below w.heap.size w V := btr B1.out BV.out
  have y1 : Below w.heap.size w V1 := y.trans (KV.out.below y.size (fun g hg e => by have := HR.out; have e' : g = R := e; omega))
  have z : Below w.heap.size w (V1.setRow (R + 1 + 1) #[.int .u64 d.sq, .slice q nq c', .slice p2 n2 c2]) := setRow_below y1 (by have := HR.out; omega)
  have lR : R < W1.heap.size := row_lt HP.out
  have lZ : R + 1 + 1 < W1.heap.size := row_lt HZ.out
  have lq := LQ.out.set (g := R) (k := 1) (v := .slice q nq c') lR
  rw [HV1.out] at lq
  have lo := (lq.setRow (g := R + 1 + 1) (cs := #[.int .u64 d.sq, .slice q nq c', .slice p2 n2 c2]) lZ).base B1.out.size
  have lr := (lq.setRow (g := R + 1 + 1) (cs := #[.int .u64 d.sq, .slice q nq c', .slice p2 n2 c2]) lZ).rl
  exact ⟨q, c', p2, c2, by rw [HNQ.out], lr, H2.out.on z, .inr lo, .inl ⟨rfl, rfl, rfl⟩, z⟩
theorem rDone_s (d : Dm) (hk : d.kd = 1) (hs : d.sd = 2) (sq : Int) (p1 p2 : Option Addr) (c1 c2 : Nat) (l1 l2 : List Lv) (w : World) (h1 : Rl w p1 c1 l1) (h2 : Rl w p2 c2 l2) (b1 : l1.length ≤ 262144) (b2 : l2.length ≤ 262144) :
    Calls Try.prog 43 #[.agg #[.int .u64 sq, .slice p1 l1.length c1, .slice p2 l2.length c2], .agg #[.int .u64 d.sq, .int .i64 d.kd, .int .i64 d.sd, .int .i64 d.pr, .int .u64 d.qt, .int .i64 d.ct]] w fun e w' => ∃ q1 e1 q2 e2, e = .returned (.agg #[.int .u64 d.sq, .slice q1 l1.length e1, .slice q2 (dnl d.sd (lvD d) (d.ct == 0) l2).length e2]) ∧ Rl w' q1 e1 l1 ∧ Rl w' q2 e2 (dnl d.sd (lvD d) (d.ct == 0) l2) ∧ Sd w w' p1 c1 l1 q1 e1 l1 ∧ Sd w w' p2 c2 l2 q2 e2 (dnl d.sd (lvD d) (d.ct == 0) l2) ∧ Below w.heap.size w w' := by
  obtain ⟨n1, hn1⟩ : ∃ n, l1.length = n := ⟨_, rfl⟩
  obtain ⟨n2, hn2⟩ : ∃ n, l2.length = n := ⟨_, rfl⟩
  have HN1 := hid hn1
  have HN2 := hid hn2
  obtain ⟨R, hR⟩ : ∃ R, w.heap.size = R := ⟨_, rfl⟩
  obtain ⟨W, hW⟩ : ∃ W, ((w.alloc (.cells #[.int .u64 sq, .slice p1 n1 c1, .slice p2 n2 c2] 49)).alloc (.cells #[.int .u64 d.sq, .int .i64 d.kd, .int .i64 d.sd, .int .i64 d.pr, .int .u64 d.qt, .int .i64 d.ct] 47)).alloc (.cells #[.int .u64 0, .slice none 0 0, .slice none 0 0] 49) = W := ⟨_, rfl⟩
  obtain ⟨hb0, x0, x1, x2⟩ := alloc3 hR hW
  obtain ⟨W1, hW1⟩ : ∃ W1, W.setCell ⟨R, 0, none⟩ (.int .u64 d.sq) = W1 := ⟨_, rfl⟩
  have KW := Kp.set W R 0 (.int .u64 d.sq)
  rw [hW1] at KW
  have B1 := hid (show Below w.heap.size w W1 from hb0.trans (KW.below hb0.size (fun g hg e => by have e' : g = R := e; omega)))
  have HP := hid (show W1.heap[R]? = some (.cells #[.int .u64 d.sq, .slice p1 n1 c1, .slice p2 n2 c2] 49 (0, 0)) from by rw [← hW1]; exact set_row _ x0)
  have HD := hid (KW.row x1 (fun e => row_ne x1 x0 (by decide) e))
  have HZ := hid (KW.row x2 (fun e => by have e' : R + 1 + 1 = R := e; omega))
  have H1 := hid h1
  have H2 := hid h2
  have HL1 := hid (h1.on B1.out)
  have HL2 := hid (h2.on B1.out)
  have kw0 := row_cell x0 0
  have fw0 := row_frz x0 0
  obtain ⟨j0, j1, j2, j3, j4, j5⟩ := row6 x1
  have HR := hid hR
  have HW := hid hW
  have HW1 := hid hW1
  have CD := hid (rdone_any d p2 c2 l2 W1 HL2.out b2)
  rw [hn2] at CD
  rw [hn1, hn2]
  have qk : (d.kd == 1) = true := by simp [hk]
  have qs1 : (d.sd == 1) = false := by simp [hs]
  have qs2 : (d.sd == 2) = true := by simp [hs]
  clear h1 h2 b1 b2 hb0 x0 x1 x2 hW hW1 KW hR hn1 hn2 hk hs
  go_enter Try.func43, Try.ntmps43
  go_upto_region 1 with fail
  rw [HW.out, HR.out]
  go_upto_region 2 with fail
  rw [HW1.out]
  clear kw0 fw0 j0 j1 j2 j3 j4 j5
  obtain ⟨k0, k1, k2⟩ := row3 HP.out
  obtain ⟨j0, j1, j2, j3, j4, j5⟩ := row6 HD.out
  go_upto_region 5 with fail
  have f2 := row_frz HP.out 2
  go_upto_region 6 with (go_at_call 67; with_reducible refine (CD.out).mono ?_; rintro e V ⟨q, c', rfl, h1, h2⟩; have LQ := hid h1; have BV := hid h2; have HPv := hid (row_on HP.out h2); have g1 := row_cell HPv.out 2; have g2 := row_frz HPv.out 2; clear h1 h2)
  obtain ⟨nq, hnq⟩ : ∃ k, (dnl d.sd (lvD d) (d.ct == 0) l2).length = k := ⟨_, rfl⟩
  rw [hnq]
  have HNQ := hid hnq
  clear hnq
  obtain ⟨V1, hV1⟩ : ∃ V1, V.setCell ⟨R, 2, none⟩ (.slice q nq c') = V1 := ⟨_, rfl⟩
  have KV := hid (show Kp (fun g => g = R) V V1 from by rw [← hV1]; exact Kp.set _ _ _ _)
  have HP1 := hid (show V1.heap[R]? = some (.cells #[.int .u64 d.sq, .slice p1 n1 c1, .slice q nq c'] 49 (0, 0)) from by rw [← hV1]; exact set_row _ HPv.out)
  have HD1 := hid (KV.out.row (row_on HD.out BV.out) (fun e => row_ne (row_on HD.out BV.out) HPv.out (by decide) e))
  have HZ1 := hid (KV.out.row (row_on HZ.out BV.out) (fun e => by have e' : R + 1 + 1 = R := e; omega))
  have HV1 := hid hV1
  rw [hV1]
  clear hV1 g1 g2 k0 k1 k2 j0 j1 j2 j3 j4 j5
  obtain ⟨k0, k1, k2⟩ := row3 HP1.out
  obtain ⟨j0, j1, j2, j3, j4, j5⟩ := row6 HD1.out
  have AI := hid (show (Try.prog.info? 49).map (·.size) = some (#[.int .u64 d.sq, .slice p1 n1 c1, .slice q nq c'] : Array Value).size from infoP)
  have AS := hid (show (#[.int .u64 0, .slice none 0 0, .slice none 0 0] : Array Value).size = (#[.int .u64 d.sq, .slice p1 n1 c1, .slice q nq c'] : Array Value).size from rfl)
  have AA := hid (show (#[.int .u64 d.sq, .slice p1 n1 c1, .slice q nq c'] : Array Value).all (·.oneCell') = true from by simp [Value.oneCell'])
  go_wp2_with (refine wpList_store_row (by rfl) 49 (.tmp 4) (.tmp 34) (by rfl) (R + 1 + 1) #[.int .u64 d.sq, .slice p1 n1 c1, .slice q nq c'] (by rfl) (by rfl) 49 _ HZ1.out AI.out AS.out AA.out ?_)
  refine bodyPost_ret (results_cell_row (fn := Try.f43) Try.results43 _ _ (R + 1 + 1) 49 #[.int .u64 d.sq, .slice p1 n1 c1, .slice q nq c'] (0, 0) _ (by rfl) (setRow_heap _ _ _ _ 49 (0, 0) HZ1.out) Try.underlying49 rfl infoP) rfl ?_
  have y : Below w.heap.size w V := btr B1.out BV.out
  have y1 : Below w.heap.size w V1 := y.trans (KV.out.below y.size (fun g hg e => by have := HR.out; have e' : g = R := e; omega))
  have z : Below w.heap.size w (V1.setRow (R + 1 + 1) #[.int .u64 d.sq, .slice p1 n1 c1, .slice q nq c']) := setRow_below y1 (by have := HR.out; omega)
  have lR : R < W1.heap.size := row_lt HP.out
  have lZ : R + 1 + 1 < W1.heap.size := row_lt HZ.out
  have lq := LQ.out.set (g := R) (k := 2) (v := .slice q nq c') lR
  rw [HV1.out] at lq
  have lo := (lq.setRow (g := R + 1 + 1) (cs := #[.int .u64 d.sq, .slice p1 n1 c1, .slice q nq c']) lZ).base B1.out.size
  have lr := (lq.setRow (g := R + 1 + 1) (cs := #[.int .u64 d.sq, .slice p1 n1 c1, .slice q nq c']) lZ).rl
  exact ⟨p1, c1, q, c', by rw [HNQ.out], H1.out.on z, lr, .inl ⟨rfl, rfl, rfl⟩, .inr lo, z⟩
end Go.Proofs.Ytojmcfkbekodpaa.Fd
namespace Go.Proofs.Ytojmcfkbekodpaa.Fd
open Go.RowKit Go.Deep
set_option linter.unusedVariables false
set_option linter.unusedSimpArgs false
set_option maxHeartbeats 4000000
set_option maxRecDepth 100000
attribute [local go_sem ↓] Go.wp_at_zero Go.wp_at_succ
theorem newS_no (d : Int) (h : ¬ (0 ≤ d ∧ d ≤ 1024)) (w : World) : Calls Try.prog 16 #[.int .i64 d] w fun e w' => e = .returned (.tuple #[.pointer none, .int .i64 1]) ∧ Below w.heap.size w w' := by
  by_cases h1 : d < 0
  · go_enter Try.func16, Try.ntmps16
    go_wp2
    go_ret2
    exact ⟨rfl, Below.refl _ _⟩
  · have h2 : 1024 < d := by omega
    have h1' : decide (d < 0) = false := by simpa using h1
    clear h h1
    go_enter Try.func16, Try.ntmps16
    go_wp2
    go_ret2
    exact ⟨rfl, Below.refl _ _⟩
end Go.Proofs.Ytojmcfkbekodpaa.Fd
namespace Go.Proofs.Ytojmcfkbekodpaa.Fd
open Go.RowKit Go.Deep
set_option linter.unusedVariables false
set_option linter.unusedSimpArgs false
set_option maxHeartbeats 8000000
set_option maxRecDepth 100000
theorem rDone_any (d : Dm) (hok : dOk d = true) (sq : Int) (p1 p2 : Option Addr) (c1 c2 : Nat) (l1 l2 : List Lv) (w : World) (h1 : Rl w p1 c1 l1) (h2 : Rl w p2 c2 l2) (b1 : l1.length ≤ 262144) (b2 : l2.length ≤ 262144) :
    Calls Try.prog 43 #[.agg #[.int .u64 sq, .slice p1 l1.length c1, .slice p2 l2.length c2], .agg #[.int .u64 d.sq, .int .i64 d.kd, .int .i64 d.sd, .int .i64 d.pr, .int .u64 d.qt, .int .i64 d.ct]] w fun e w' => ∃ q1 e1 q2 e2, e = .returned (.agg #[.int .u64 d.sq, .slice q1 (dnS 1 d l1).length e1, .slice q2 (dnS 2 d l2).length e2]) ∧ Rl w' q1 e1 (dnS 1 d l1) ∧ Rl w' q2 e2 (dnS 2 d l2) ∧ Sd w w' p1 c1 l1 q1 e1 (dnS 1 d l1) ∧ Sd w w' p2 c2 l2 q2 e2 (dnS 2 d l2) ∧ Below w.heap.size w w' := by
  have h' := (dOk_iff _).1 hok
  by_cases hk : d.kd = 1
  · by_cases hs : d.sd = 1
    · have e1 : dnS 1 d l1 = dnl d.sd (lvD d) (d.ct == 0) l1 := by simp [dnS, hk, hs]
      have e2 : dnS 2 d l2 = l2 := by simp [dnS, hk, hs]
      rw [e1, e2]
      exact rDone_b d hk hs sq p1 p2 c1 c2 l1 l2 w h1 h2 b1 b2
    · have hs2 : d.sd = 2 := by omega
      have e1 : dnS 1 d l1 = l1 := by simp [dnS, hk, hs]
      have e2 : dnS 2 d l2 = dnl d.sd (lvD d) (d.ct == 0) l2 := by simp [dnS, hk, hs2]
      rw [e1, e2]
      exact rDone_s d hk hs2 sq p1 p2 c1 c2 l1 l2 w h1 h2 b1 b2
  · have hk2 : d.kd = 2 := by omega
    have e1 : dnS 1 d l1 = l1 := by simp [dnS, hk]
    have e2 : dnS 2 d l2 = l2 := by simp [dnS, hk]
    rw [e1, e2]
    exact rDone_t d hk2 sq p1 p2 c1 c2 l1 l2 w h1 h2 b1 b2
theorem dnS_len {s : Int} {d : Dm} {l : List Lv} : (dnS s d l).length ≤ l.length + 1 := by
  unfold dnS
  split
  · exact dnl_len _ _ _ _
  · omega
theorem row_there {w : World} {g : Nat} {t : TypeId} {cs : Array Value} (h : w.heap[g]? = some (.cells cs t (0, 0))) (o n : Nat) (hn : o + n ≤ cs.size) : w.there g o n := fun j hj => ⟨by rw [row_cell h, Array.getElem?_eq_getElem (by omega)]; rfl, row_frz h _⟩
end Go.Proofs.Ytojmcfkbekodpaa.Fd
namespace Go.Proofs.Ytojmcfkbekodpaa.Fd
open Go.RowKit Go.Deep
set_option linter.unusedVariables false
set_option linter.unusedSimpArgs false
theorem dnl_mem {s : Int} {v z : Lv} {put : Bool} {l : List Lv} (h : z ∈ dnl s v put l) : (z = v ∧ put = false) ∨ z ∈ l := by
  induction l generalizing put with
  | nil => cases put <;> simp [dnl] at h; exact .inl ⟨h, rfl⟩
  | cons y l ih =>
    simp only [dnl, List.mem_append] at h
    rcases h with h | h | h
    · split at h
      · rename_i hc
        simp only [List.mem_singleton] at h
        refine .inl ⟨h, ?_⟩
        cases put <;> simp_all
      · simp at h
    · split at h
      · simp at h
      · simp only [List.mem_singleton] at h
        exact .inr (by simp [h])
    · rcases ih h with h | h
      · refine .inl ⟨h.1, ?_⟩
        cases put <;> simp_all
      · exact .inr (by simp [h])
theorem dnl_true {s : Int} {v : Lv} {l : List Lv} : dnl s v true l = l.filter (fun y => y.pr != v.pr) := by
  induction l with
  | nil => rfl
  | cons y l ih =>
    rw [dnl_cons_t, ih, List.filter_cons]
    by_cases e : y.pr = v.pr
    · simp [e]
    · simp [e]
theorem Lok_iff {s : Int} {l : List Lv} : Lok s l ↔ (∀ x ∈ l, lvG x = true) ∧ l.Pairwise (fun x y => bt s x.pr y.pr = true) := by
  constructor
  · intro h
    refine ⟨fun x hx => ?_, List.pairwise_iff_getElem.2 (fun i j hi hj hij => h.lt hj hij)⟩
    obtain ⟨i, hi, rfl⟩ := List.getElem_of_mem hx
    exact (h i hi).1
  · rintro ⟨h1, h2⟩ i hi
    exact ⟨h1 _ (List.getElem_mem hi), fun h0 => List.pairwise_iff_getElem.1 h2 (i - 1) i (by omega) hi (by omega)⟩
theorem dnl_pair {s : Int} {v : Lv} {put : Bool} {l : List Lv} (h : l.Pairwise (fun x y => bt s x.pr y.pr = true)) : (dnl s v put l).Pairwise (fun x y => bt s x.pr y.pr = true) := by
  cases put with
  | true => rw [dnl_true]; exact h.filter _
  | false =>
    induction l with
    | nil => simp [dnl]
    | cons y l ih =>
      rw [List.pairwise_cons] at h
      cases hb : bt s y.pr v.pr with
      | true =>
        rw [dnl_cons_lo hb, List.singleton_append, List.pairwise_cons]
        refine ⟨fun z hz => ?_, ih h.2⟩
        rcases dnl_mem hz with ⟨rfl, _⟩ | hz
        · exact hb
        · exact h.1 z hz
      | false =>
        rw [dnl_cons_in hb, dnl_true]
        by_cases e : y.pr = v.pr
        · rw [if_pos e, List.nil_append, List.singleton_append, List.pairwise_cons]
          refine ⟨fun z hz => ?_, h.2.filter _⟩
          rw [← e]
          exact h.1 z (List.mem_filter.1 hz).1
        · have hv : bt s v.pr y.pr = true := by
            cases hq : bt s v.pr y.pr with
            | true => rfl
            | false => exact absurd (bt_tri hb hq) e
          rw [if_neg e, List.singleton_append, List.singleton_append, List.pairwise_cons, List.pairwise_cons]
          refine ⟨fun z hz => ?_, fun z hz => h.1 z (List.mem_filter.1 hz).1, h.2.filter _⟩
          rcases List.mem_cons.1 hz with rfl | hz
          · exact hv
          · exact bt_trans hv (h.1 z (List.mem_filter.1 hz).1)
theorem Lok.dnl {s : Int} {v : Lv} {put : Bool} {l : List Lv} (h : Lok s l) (hv : put = false → lvG v = true) : Lok s (dnl s v put l) := by
  rw [Lok_iff] at h ⊢
  refine ⟨fun x hx => ?_, dnl_pair h.2⟩
  rcases dnl_mem hx with ⟨rfl, e⟩ | hx
  · exact hv e
  · exact h.1 x hx
theorem Lok.dnS {s : Int} {d : Dm} {l : List Lv} (h : Lok s l) (hd : dOk d = true) : Lok s (dnS s d l) := by
  unfold Go.Proofs.Ytojmcfkbekodpaa.Fd.dnS
  split
  · rename_i hc
    refine h.dnl (fun hp => ?_)
    have := (dOk_iff d).1 hd
    have hct : d.ct ≠ 0 := by simpa using hp
    have := hc.1
    unfold lvG lvD
    simp only [decide_eq_true_eq]
    omega
  · exact h
/-- what a subscriber shows and holds. -/
structure Ss where
  sq : Int
  gr : Int
  l1 : List Lv
  l2 : List Lv
  L : List Dm
  la : Dm
/-- a message is done. -/
def doS (s : Ss) (d : Dm) : Ss := ⟨d.sq, s.gr, dnS 1 d s.l1, dnS 2 d s.l2, s.L, if d.kd = 2 then d else s.la⟩
/-- without a number. -/
def wo (L : List Dm) (k : Int) : List Dm := L.filter (fun d => d.sq != k)
def hasN (L : List Dm) (k : Int) : Bool := L.any (fun d => d.sq == k)
theorem wo_lt {L : List Dm} {k : Int} (h : hasN L k = true) : (wo L k).length < L.length := by
  unfold wo
  rw [List.length_filter_lt_length_iff_exists]
  unfold hasN at h
  rw [List.any_eq_true] at h
  obtain ⟨x, h1, h2⟩ := h
  exact ⟨x, h1, by simpa using h2⟩
/-- the next one that is held is done. -/
def nxS (s : Ss) : Ss := doS ⟨s.sq, s.gr, s.l1, s.l2, wo s.L (uw (s.sq + 1)), s.la⟩ (fnd s.L (uw (s.sq + 1)))
/-- all that is held is done, as far as no number is missing. -/
def goS (s : Ss) : Ss := if h : hasN s.L (uw (s.sq + 1)) = true then goS (nxS s) else s
termination_by s.L.length
decreasing_by exact wo_lt h
theorem goS_yes {s : Ss} (h : hasN s.L (uw (s.sq + 1)) = true) : goS s = goS (nxS s) := by rw [goS, dif_pos h]
theorem goS_no {s : Ss} (h : hasN s.L (uw (s.sq + 1)) = false) : goS s = s := by rw [goS, dif_neg (by simp [h])]
/-- such a state can be. -/
structure Sg (hold : Nat) (s : Ss) : Prop where
  sq : 0 ≤ s.sq ∧ s.sq < 18446744073709551616
  gr : 0 ≤ s.gr ∧ s.gr < 18446744073709551616
  k1 : Lok 1 s.l1
  k2 : Lok 2 s.l2
  hl : ∀ d ∈ s.L, dOk d = true ∧ 0 ≤ d.sq ∧ d.sq < 18446744073709551616 ∧ d.sq ≤ s.gr
  nd : s.L.Pairwise (fun x y => x.sq ≠ y.sq)
  len : s.L.length ≤ hold
  la : s.la = dm0 ∨ (s.la.kd = 2 ∧ 1 ≤ s.la.sq)
theorem Sg.doS {hold : Nat} {s : Ss} (h : Sg hold s) {d : Dm} (hd : dOk d = true) (hr : 0 ≤ d.sq ∧ d.sq < 18446744073709551616) : Sg hold (doS s d) := by
  have := (dOk_iff d).1 hd
  refine ⟨hr, h.gr, h.k1.dnS hd, h.k2.dnS hd, h.hl, h.nd, h.len, ?_⟩
  show (if d.kd = 2 then d else s.la) = dm0 ∨ _
  unfold Go.Proofs.Ytojmcfkbekodpaa.Fd.doS
  split
  · rename_i e; exact .inr ⟨e, this.1⟩
  · exact h.la
theorem Sg.wo {hold : Nat} {s : Ss} (h : Sg hold s) (k : Int) : Sg hold ⟨s.sq, s.gr, s.l1, s.l2, wo s.L k, s.la⟩ :=
  ⟨h.sq, h.gr, h.k1, h.k2, fun d hd => h.hl d (List.mem_filter.1 hd).1, h.nd.filter _, Nat.le_trans (List.length_filter_le _ _) h.len, h.la⟩
theorem Sg.fnd {hold : Nat} {s : Ss} (h : Sg hold s) {k : Int} (hk : hasN s.L k = true) : dOk (fnd s.L k) = true ∧ (0 ≤ (fnd s.L k).sq ∧ (fnd s.L k).sq < 18446744073709551616) ∧ (fnd s.L k).sq = k ∧ fnd s.L k ∈ s.L := by
  obtain ⟨a, b⟩ := fnd_mem hk
  have c := h.hl _ a
  exact ⟨c.1, ⟨c.2.1, c.2.2.1⟩, b, a⟩
theorem Sg.nxS {hold : Nat} {s : Ss} (h : Sg hold s) (hk : hasN s.L (uw (s.sq + 1)) = true) : Sg hold (nxS s) := by
  obtain ⟨a, b, _⟩ := h.fnd hk
  exact (h.wo _).doS a b
theorem Sg.goS {hold : Nat} {s : Ss} (h : Sg hold s) : Sg hold (goS s) := by
  induction hn : s.L.length using Nat.strongRecOn generalizing s with
  | ind n ih =>
    subst hn
    cases hc : hasN s.L (uw (s.sq + 1)) with
    | false => rw [goS_no hc]; exact h
    | true => rw [goS_yes hc]; exact ih _ (wo_lt hc) (h.nxS hc) rfl
theorem goS_gr (s : Ss) : (goS s).gr = s.gr := by
  induction hn : s.L.length using Nat.strongRecOn generalizing s with
  | ind n ih =>
    subst hn
    cases hc : hasN s.L (uw (s.sq + 1)) with
    | false => rw [goS_no hc]
    | true => rw [goS_yes hc]; exact ih _ (wo_lt hc) (nxS s) rfl
/-- Take. -/
def tkS (hold : Nat) (s : Ss) (d : Dm) : Ss :=
  if dOk d = false then s else if d.sq ≤ s.sq ∨ hasN s.L d.sq = true then s
  else if d.sq = s.sq + 1 then goS (doS ⟨s.sq, max s.gr d.sq, s.l1, s.l2, s.L, s.la⟩ d)
  else ⟨s.sq, max s.gr d.sq, s.l1, s.l2, if s.L.length < hold then s.L ++ [d] else s.L, s.la⟩
def tkE (s : Ss) (d : Dm) : Int := if dOk d = false then 1 else if d.sq ≤ s.sq ∨ hasN s.L d.sq = true then 180 else if d.sq = s.sq + 1 then 0 else 181
theorem Sg.up {hold : Nat} {s : Ss} (h : Sg hold s) {d : Dm} (hr : 0 ≤ d.sq ∧ d.sq < 18446744073709551616) : Sg hold ⟨s.sq, max s.gr d.sq, s.l1, s.l2, s.L, s.la⟩ :=
  ⟨h.sq, by have := h.gr; show 0 ≤ max s.gr d.sq ∧ max s.gr d.sq < _; omega, h.k1, h.k2, fun x hx => by have := h.hl x hx; exact ⟨this.1, this.2.1, this.2.2.1, by show x.sq ≤ max s.gr d.sq; omega⟩, h.nd, h.len, h.la⟩
theorem Sg.held {hold : Nat} {s : Ss} (h : Sg hold s) {d : Dm} (hd : dOk d = true) (hr : 0 ≤ d.sq ∧ d.sq < 18446744073709551616) (hx : hasN s.L d.sq = false) (hl : s.L.length < hold) : Sg hold ⟨s.sq, max s.gr d.sq, s.l1, s.l2, s.L ++ [d], s.la⟩ := by
  have u := h.up hr
  refine ⟨u.sq, u.gr, u.k1, u.k2, fun x hx => ?_, ?_, by simp; omega, u.la⟩
  · rcases List.mem_append.1 hx with hx | hx
    · exact u.hl x hx
    · simp only [List.mem_singleton] at hx
      subst hx
      exact ⟨hd, hr.1, hr.2, by show x.sq ≤ max s.gr x.sq; omega⟩
  · rw [List.pairwise_append]
    refine ⟨h.nd, by simp, fun a ha b hb => ?_⟩
    simp only [List.mem_singleton] at hb
    subst hb
    unfold hasN at hx
    rw [List.any_eq_false] at hx
    have := hx a ha
    simpa using this
theorem Sg.tkS {hold : Nat} {s : Ss} (h : Sg hold s) {d : Dm} (hr : 0 ≤ d.sq ∧ d.sq < 18446744073709551616) : Sg hold (tkS hold s d) := by
  unfold Go.Proofs.Ytojmcfkbekodpaa.Fd.tkS
  split
  · exact h
  · rename_i h1
    have hd : dOk d = true := by simpa using h1
    split
    · exact h
    · rename_i h2
      split
      · exact ((h.up hr).doS hd hr).goS
      · split
        · rename_i h4
          exact h.held hd hr (by cases hq : hasN s.L d.sq with | false => rfl | true => exact absurd (.inr hq) h2) h4
        · exact h.up hr
/-- Recover. -/
def rcS (s : Ss) (sq : Int) (l1 l2 : List Lv) : Ss :=
  if (lok 1 l1 && lok 2 l2) = false then s else if sq < s.sq then s else goS ⟨sq, s.gr, l1, l2, s.L.filter (fun d => decide (sq < d.sq)), s.la⟩
def rcE (s : Ss) (sq : Int) (l1 l2 : List Lv) : Int := if (lok 1 l1 && lok 2 l2) = false then 1 else if sq < s.sq then 180 else 0
theorem Sg.pic {hold : Nat} {s : Ss} (h : Sg hold s) {sq : Int} {l1 l2 : List Lv} (hr : 0 ≤ sq ∧ sq < 18446744073709551616) (h1 : lok 1 l1 = true) (h2 : lok 2 l2 = true) : Sg hold ⟨sq, s.gr, l1, l2, s.L.filter (fun d => decide (sq < d.sq)), s.la⟩ :=
  ⟨hr, h.gr, (lok_iff _ _).1 h1, (lok_iff _ _).1 h2, fun d hd => h.hl d (List.mem_filter.1 hd).1, h.nd.filter _, Nat.le_trans (List.length_filter_le _ _) h.len, h.la⟩
theorem Sg.rcS {hold : Nat} {s : Ss} (h : Sg hold s) {sq : Int} {l1 l2 : List Lv} (hr : 0 ≤ sq ∧ sq < 18446744073709551616) : Sg hold (rcS s sq l1 l2) := by
  unfold Go.Proofs.Ytojmcfkbekodpaa.Fd.rcS
  split
  · exact h
  · rename_i hc
    have hc' : (lok 1 l1 && lok 2 l2) = true := by simpa using hc
    rw [Bool.and_eq_true] at hc'
    split
    · exact h
    · exact (h.pic hr hc'.1 hc'.2).goS
/-- the last number that is missing. -/
def mnS (g : Int) (L : List Dm) : Int := L.foldl (fun t d => min t (d.sq - 1)) g
theorem mnS_le (L : List Dm) (g : Int) : mnS g L ≤ g := by
  induction L generalizing g with
  | nil => exact Int.le_refl _
  | cons d L ih => exact Int.le_trans (ih _) (by show min g (d.sq - 1) ≤ g; omega)
theorem mnS_mem {L : List Dm} {g : Int} {d : Dm} (h : d ∈ L) : mnS g L ≤ d.sq - 1 := by
  induction L generalizing g with
  | nil => simp at h
  | cons x L ih =>
    rcases List.mem_cons.1 h with rfl | h
    · exact Int.le_trans (mnS_le L _) (by show min g (d.sq - 1) ≤ d.sq - 1; omega)
    · exact ih h
theorem mnS_glb {L : List Dm} {g t : Int} (h0 : t ≤ g) (h : ∀ d ∈ L, t ≤ d.sq - 1) : t ≤ mnS g L := by
  induction L generalizing g with
  | nil => exact h0
  | cons x L ih => exact ih (by have := h x (by simp); show t ≤ min g (x.sq - 1); omega) (fun d hd => h d (by simp [hd]))
theorem mnS_ge {L : List Dm} {g : Int} (h0 : 0 ≤ g) (h : ∀ d ∈ L, 1 ≤ d.sq) : 0 ≤ mnS g L := mnS_glb h0 (fun d hd => by have := h d hd; omega)
end Go.Proofs.Ytojmcfkbekodpaa.Fd
