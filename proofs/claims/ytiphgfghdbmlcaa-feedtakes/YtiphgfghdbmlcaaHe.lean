/-
  A side's levels behind a message, plain.
-/
import Derived.Test.YtiphgfghdbmlcaaHc
import Derived.Test.YtiphgfghdbmlcaaFfB
namespace Go.Proofs.Ytiphgfghdbmlcaa
open Go.RowKit Go.Deep
/-- the document's way: level by level. -/
def dnl (s : Int) (v : Lv) : Bool → List Lv → List Lv
  | put, [] => if put then [] else [v]
  | put, y :: l => (if !put && !bt s y.pr v.pr then [v] else []) ++ ((if y.pr = v.pr then [] else [y]) ++ dnl s v (put || !bt s y.pr v.pr) l)
theorem dnl_lo {s : Int} {v : Lv} {a r : List Lv} (put : Bool) (h : ∀ y ∈ a, bt s y.pr v.pr = true) : dnl s v put (a ++ r) = a ++ dnl s v put r := by
  induction a with
  | nil => rfl
  | cons y a ih =>
    have hy := h y (by simp)
    have hn : y.pr ≠ v.pr := bt_ne hy
    simp only [List.cons_append, dnl, hy, if_neg hn]
    simp [ih (fun z hz => h z (by simp [hz]))]
theorem dnl_put {s : Int} {v : Lv} {r : List Lv} (h : ∀ y ∈ r, y.pr ≠ v.pr) : dnl s v true r = r := by
  induction r with
  | nil => rfl
  | cons y r ih =>
    simp only [dnl, if_neg (h y (by simp))]
    simp [ih (fun z hz => h z (by simp [hz]))]
theorem dnl_plc {s : Int} {l : List Lv} {v : Lv} {i : Nat} {b : Bool} (h : Plc s l v.pr i b) (hl : Lok s l) (put : Bool) : dnl s v put l = l.take i ++ ((if put then [] else [v]) ++ l.drop (if b then i + 1 else i)) := by
  have e : dnl s v put l = l.take i ++ dnl s v put (l.drop i) := by
    conv => lhs; rw [← List.take_append_drop i l]
    refine dnl_lo put (fun y hy => ?_)
    obtain ⟨k, hk, rfl⟩ := List.getElem_of_mem hy
    rw [List.getElem_take]
    rw [List.length_take] at hk
    exact h.lo k (by omega) (by omega)
  rw [e]
  congr 1
  by_cases hi : i < l.length
  · have hy := h.hi i hi (Nat.le_refl _)
    have hr : ∀ y ∈ l.drop (i + 1), y.pr ≠ v.pr := fun y hy' => by
      obtain ⟨k, hk, rfl⟩ := List.getElem_of_mem hy'
      rw [List.getElem_drop]
      rw [List.length_drop] at hk
      have h1 := hl.lt (i := i) (j := i + 1 + k) (by omega) (by omega)
      intro e
      rw [e, hy] at h1
      cases h1
    rw [List.drop_eq_getElem_cons hi]
    simp only [dnl, hy]
    have hp : (put || !false) = true := by simp
    rw [hp, dnl_put hr]
    cases hb : b with
    | true =>
      obtain ⟨_, hx⟩ := h.b.1 hb
      cases put <;> simp [hx]
    | false =>
      have hx : l[i].pr ≠ v.pr := fun hx => by
        have := h.b.2 ⟨hi, hx⟩
        rw [hb] at this
        cases this
      cases put <;> simp [hx]
  · have hb : b = false := by
      cases hb : b with
      | false => rfl
      | true => exact absurd (h.b.1 hb).1 hi
    have hd : l.drop i = [] := List.drop_eq_nil_of_le (by omega)
    rw [hb]
    simp only [hd]
    cases put <;> simp [dnl, hd]
/-- a level that is gone, told of or new: the list by its place. -/
theorem dnl_gone_in {s : Int} {l : List Lv} {v : Lv} {i : Nat} (h : Plc s l v.pr i true) (hl : Lok s l) : dnl s v true l = l.eraseIdx i := by
  rw [dnl_plc h hl, List.eraseIdx_eq_take_drop_succ]
  simp
theorem dnl_gone_out {s : Int} {l : List Lv} {v : Lv} {i : Nat} (h : Plc s l v.pr i false) (hl : Lok s l) : dnl s v true l = l := by
  rw [dnl_plc h hl]
  simp
theorem dnl_set {s : Int} {l : List Lv} {v : Lv} {i : Nat} (h : Plc s l v.pr i true) (hl : Lok s l) : dnl s v false l = l.set i v := by
  obtain ⟨hi, _⟩ := h.b.1 rfl
  rw [dnl_plc h hl, List.set_eq_take_append_cons_drop, if_pos hi]
  simp
theorem dnl_new {s : Int} {l : List Lv} {v : Lv} {i : Nat} (h : Plc s l v.pr i false) (hl : Lok s l) : dnl s v false l = l.take i ++ v :: l.drop i := by
  rw [dnl_plc h hl]
  simp
end Go.Proofs.Ytiphgfghdbmlcaa
namespace Go.Proofs.Ytiphgfghdbmlcaa
open Go.RowKit Go.Deep
set_option linter.unusedVariables false
set_option linter.unusedSimpArgs false
set_option maxHeartbeats 8000000
set_option maxRecDepth 100000
def lvD (d : Dm) : Lv := ⟨d.pr, d.qt, d.ct⟩
theorem dnl_len (s : Int) (v : Lv) (put : Bool) (l : List Lv) : (dnl s v put l).length ≤ l.length + 1 := by
  induction l generalizing put with
  | nil => cases put <;> simp [dnl]
  | cons y l ih =>
    have a := ih (put || !bt s y.pr v.pr)
    have b : put = true → (dnl s v true l).length ≤ l.length + 1 := fun _ => ih true
    have c : ∀ l : List Lv, (dnl s v true l).length ≤ l.length := fun l => by
      induction l with
      | nil => simp [dnl]
      | cons z l ih => simp only [dnl, List.length_append]; simp; split <;> simp <;> omega
    have c' := c l
    simp only [dnl, List.length_append]
    cases put <;> cases hb : bt s y.pr v.pr <;> simp [hb] at a ⊢ <;> split <;> simp <;> omega
theorem dnl_cons_t {s : Int} {v y : Lv} {l : List Lv} : dnl s v true (y :: l) = (if y.pr = v.pr then [] else [y]) ++ dnl s v true l := by simp [dnl]
theorem dnl_cons_lo {s : Int} {v y : Lv} {l : List Lv} (h : bt s y.pr v.pr = true) : dnl s v false (y :: l) = [y] ++ dnl s v false l := by
  have := bt_ne h
  simp [dnl, h, this]
theorem dnl_cons_in {s : Int} {v y : Lv} {l : List Lv} (h : bt s y.pr v.pr = false) : dnl s v false (y :: l) = [v] ++ ((if y.pr = v.pr then [] else [y]) ++ dnl s v true l) := by
  simp [dnl, h]
theorem rdone_any (d : Dm) (p : Option Addr) (c : Nat) (l : List Lv) (w : World) (h : Rl w p c l) (hl : l.length ≤ 262144) :
    Calls Try.prog 68 #[.slice p l.length c, .agg #[.int .u64 d.sq, .int .i64 d.kd, .int .i64 d.sd, .int .i64 d.pr, .int .u64 d.qt, .int .i64 d.ct]] w fun e w' => ∃ q c', e = .returned (.slice q (dnl d.sd (lvD d) (d.ct == 0) l).length c') ∧ Lo w.heap.size w' q c' (dnl d.sd (lvD d) (d.ct == 0) l) ∧ Below w.heap.size w w' := by
  have hmax := h.max
  have hcap := h.cap
  unfold maxLen at hmax
  obtain ⟨n, hn⟩ : ∃ n, l.length = n := ⟨_, rfl⟩
  have HN := hid hn
  have HLEN := hid (show (dnl d.sd (lvD d) (d.ct == 0) l).length ≤ n + 1 from by rw [← hn]; exact dnl_len _ _ _ _)
  rw [hn] at hcap hl ⊢
  obtain ⟨R, hR⟩ : ∃ R, w.heap.size = R := ⟨_, rfl⟩
  obtain ⟨W, hW⟩ : ∃ W, w.alloc (.cells #[.int .u64 d.sq, .int .i64 d.kd, .int .i64 d.sd, .int .i64 d.pr, .int .u64 d.qt, .int .i64 d.ct] 48) = W := ⟨_, rfl⟩
  have hb0 : Below w.heap.size w W := by rw [← hW]; exact ball _ _
  have HD := hid (show W.heap[R]? = some (.cells #[.int .u64 d.sq, .int .i64 d.kd, .int .i64 d.sd, .int .i64 d.pr, .int .u64 d.qt, .int .i64 d.ct] 48 (0, 0)) from by rw [← hW, ← hR]; exact World.alloc_heap_new _ _)
  have HL := hid (h.on hb0)
  have HB0 := hid hb0
  have HW := hid hW
  have HR := hid hR
  obtain ⟨k0, k1, k2, k3, k4, k5⟩ := row6 HD.out
  clear h hn hb0 hW hR
  go_enter Try.func68, Try.ntmps68
  go_upto_region 1 with fail
  rw [HW.out, HR.out]
  go_wp2
  go_loopw [5, 6, 7] (fun ov pv iv wr => ∃ (i : Nat) (put : Bool) (q : Option Addr) (m dd : Nat) (acc : List Lv), i ≤ n ∧ ov = .slice q m dd ∧ pv = .bool put ∧ iv = .int .i64 i ∧ Hid (m = acc.length) ∧ Hid (wr.ownsRow W.heap.size 89 3 (.slice q m dd) m (lvc acc)) ∧ Hid (acc ++ dnl d.sd (lvD d) put (l.drop i) = dnl d.sd (lvD d) (d.ct == 0) l) ∧ Hid (Below W.heap.size W wr)) (fun _ _ iv _ => n - (intOf iv).toNat)
  case atStart => exact ⟨0, d.ct == 0, none, 0, 0, [], by omega, rfl, rfl, rfl, rfl, own_nil _ _ _ _, rfl, Below.refl _ _⟩
  case round =>
    obtain ⟨i, put, q, m, dd, acc, hi, rfl, rfl, rfl, HM, HO, HE, HB⟩ := hrel
    clear k0 k1 k2 k3 k4 k5
    have hm : m ≤ 262145 := by
      have a := HLEN.out
      rw [← HE.out, List.length_append, ← HM.out] at a
      omega
    by_cases hlt : i < n
    · have hil : i < l.length := by have := HN.out; omega
      have HDR := hid (show l.drop i = l[i] :: l.drop (i + 1) from List.drop_eq_getElem_cons hil)
      obtain ⟨g, o, rfl, sg, a0, a1, a2⟩ := (HL.out.on HB.out).cells hil
      obtain ⟨y, hy⟩ : ∃ y, l[i] = y := ⟨_, rfl⟩
      rw [hy] at a0 a1 a2 HDR
      have HCE := hid (show ∀ U, Below W.heap.size W U → U.cell? ⟨g, o + i * 3, none⟩ = some (.int .i64 y.pr) ∧ U.cell? ⟨g, o + i * 3 + 1, none⟩ = some (.int .u64 y.qt) ∧ U.cell? ⟨g, o + i * 3 + 2, none⟩ = some (.int .i64 y.ct) from fun U hU => by
        obtain ⟨g', o', e, _, b0, b1, b2⟩ := (HL.out.on hU).cells hil
        injection e with e
        injection e with e1 e2
        subst e1 e2
        rw [hy] at b0 b1 b2
        exact ⟨b0, b1, b2⟩)
      have i0 : (0 : Int) ≤ (i : Int) := by omega
      have i1 : (i : Int) < (n : Int) := by omega
      have WO := hid (fun (U : World) => worse_any d.sd d.pr y.pr U)
      obtain ⟨k0, k1, k2, k3, k4, k5⟩ := row6 (row_on HD.out HB.out)
      clear hy sg
      cases put with
      | true =>
        go_upto_region 6 with fail
        go_quiet (fail)
        go_upto_region 9 with fail
        obtain ⟨V, hV⟩ : ∃ V, wr.drewN nq = V := ⟨_, rfl⟩
        have BV := hid (show Below W.heap.size W V from by rw [← hV]; exact btr HB.out (bdrew _ _))
        have HOV := hid (show V.ownsRow W.heap.size 89 3 (.slice q m dd) m (lvc acc) from by rw [← hV]; exact own_on HO.out (bdrew _ _))
        rw [hV]
        clear hV k0 k1 k2 k3 k4 k5 a0 a1 a2
        obtain ⟨k0, k1, k2, k3, k4, k5⟩ := row6 (row_on HD.out BV.out)
        obtain ⟨a0, a1, a2⟩ := HCE.out V BV.out
        by_cases hx : y.pr = d.pr
        · have q1 : (y.pr != d.pr) = false := by simpa using hx
          have HX := hid hx
          clear hx
          go_quiet (fail)
          go_wp2
          go_roundw
          case rel => exact ⟨i + 1, true, q, m, dd, acc, by omega, rfl, rfl, by go_num, HM.out, own_on HOV.out (bdrew _ _), by have := HE.out; rw [HDR.out, dnl_cons_t, if_pos (show y.pr = (lvD d).pr from HX.out)] at this; exact this, btr BV.out (bdrew _ _)⟩
          case measure => simp [intOf]; omega
        · have q1 : (y.pr != d.pr) = true := by simpa using hx
          have HX := hid hx
          clear hx
          go_quiet (fail)
          go_upto_region 10 with fail
          obtain ⟨V2, hV2⟩ : ∃ V2, V.drewN nq = V2 := ⟨_, rfl⟩
          have BV2 := hid (show Below W.heap.size W V2 from by rw [← hV2]; exact btr BV.out (bdrew _ _))
          have HO2 := hid (show V2.ownsRow W.heap.size 89 3 (.slice q m dd) m (lvc acc) from by rw [← hV2]; exact own_on HOV.out (bdrew _ _))
          rw [hV2]
          clear hV2 k0 k1 k2 k3 k4 k5 a0 a1 a2
          obtain ⟨a0, a1, a2⟩ := HCE.out V2 BV2.out
          have HOv := hid (own_on HO2.out (ball V2 (.cells #[.int .i64 y.pr, .int .u64 y.qt, .int .i64 y.ct] 89)))
          have HBv := hid (btr BV2.out (ball V2 (.cells #[.int .i64 y.pr, .int .u64 y.qt, .int .i64 y.ct] 89)))
          have RN := hid (rdl_new V2 y)
          have HLN := hid (lvc_len [y])
          go_wp2_with (at_builtin; refine wpList_app_rd (by rfl) (.tmp 50) (.tmp 55) 28 89 _ 3 24 (by rfl) Try.underlying28 infoL3 rfl (by decide) W.heap.size _ m (lvc acc) (by rfl) HOv.out (some ⟨V2.heap.size, 0, none⟩) 1 1 (lvc [y]) (by rfl) (fun e => by cases e) HLN.out RN.out (lvc_one _) (by unfold maxLen; omega) (by omega) HBv.out.size ?_; intro v' U3 hown hgrow; obtain ⟨q3, d3, rfl⟩ := own_form hown; have HO3 := hid hown; have HB3 := hid (below_grown (base := 0) HBv.out HOv.out hgrow); clear hown hgrow)
          go_roundw
          case rel => exact ⟨i + 1, true, q3, m + 1, d3, acc ++ [y], by omega, rfl, rfl, by go_num, by rw [List.length_append, ← HM.out]; rfl, by rw [lvc_app]; exact HO3.out, by have := HE.out; rw [HDR.out, dnl_cons_t, if_neg (show ¬ y.pr = (lvD d).pr from HX.out), ← List.append_assoc] at this; exact this, HB3.out⟩
          case measure => simp [intOf]; omega
      | false =>
        cases hb : bt d.sd y.pr d.pr with
        | true =>
          rw [hb] at WO
          have HBT := hid hb
          go_upto_region 6 with fail
          go_quiet (first | (go_at_call 53; refine (WO.out _).mono ?_; rintro e1 u1 ⟨rfl, rfl⟩; exact ⟨rfl, _, rfl⟩))
          go_upto_region 9 with fail
          obtain ⟨V, hV⟩ : ∃ V, wr.drewN nq = V := ⟨_, rfl⟩
          have BV := hid (show Below W.heap.size W V from by rw [← hV]; exact btr HB.out (bdrew _ _))
          have HOV := hid (show V.ownsRow W.heap.size 89 3 (.slice q m dd) m (lvc acc) from by rw [← hV]; exact own_on HO.out (bdrew _ _))
          rw [hV]
          clear hV k0 k1 k2 k3 k4 k5 a0 a1 a2
          obtain ⟨k0, k1, k2, k3, k4, k5⟩ := row6 (row_on HD.out BV.out)
          obtain ⟨a0, a1, a2⟩ := HCE.out V BV.out
          have hx : y.pr ≠ d.pr := bt_ne HBT.out
          have q1 : (y.pr != d.pr) = true := by simpa using hx
          have HX := hid hx
          clear hx
          go_quiet (fail)
          go_upto_region 10 with fail
          obtain ⟨V2, hV2⟩ : ∃ V2, V.drewN nq = V2 := ⟨_, rfl⟩
          have BV2 := hid (show Below W.heap.size W V2 from by rw [← hV2]; exact btr BV.out (bdrew _ _))
          have HO2 := hid (show V2.ownsRow W.heap.size 89 3 (.slice q m dd) m (lvc acc) from by rw [← hV2]; exact own_on HOV.out (bdrew _ _))
          rw [hV2]
          clear hV2 k0 k1 k2 k3 k4 k5 a0 a1 a2
          obtain ⟨a0, a1, a2⟩ := HCE.out V2 BV2.out
          have HOv := hid (own_on HO2.out (ball V2 (.cells #[.int .i64 y.pr, .int .u64 y.qt, .int .i64 y.ct] 89)))
          have HBv := hid (btr BV2.out (ball V2 (.cells #[.int .i64 y.pr, .int .u64 y.qt, .int .i64 y.ct] 89)))
          have RN := hid (rdl_new V2 y)
          have HLN := hid (lvc_len [y])
          go_wp2_with (at_builtin; refine wpList_app_rd (by rfl) (.tmp 50) (.tmp 55) 28 89 _ 3 24 (by rfl) Try.underlying28 infoL3 rfl (by decide) W.heap.size _ m (lvc acc) (by rfl) HOv.out (some ⟨V2.heap.size, 0, none⟩) 1 1 (lvc [y]) (by rfl) (fun e => by cases e) HLN.out RN.out (lvc_one _) (by unfold maxLen; omega) (by omega) HBv.out.size ?_; intro v' U3 hown hgrow; obtain ⟨q3, d3, rfl⟩ := own_form hown; have HO3 := hid hown; have HB3 := hid (below_grown (base := 0) HBv.out HOv.out hgrow); clear hown hgrow)
          go_roundw
          case rel => exact ⟨i + 1, false, q3, m + 1, d3, acc ++ [y], by omega, rfl, rfl, by go_num, by rw [List.length_append, ← HM.out]; rfl, by rw [lvc_app]; exact HO3.out, by have := HE.out; rw [HDR.out, dnl_cons_lo HBT.out, ← List.append_assoc] at this; exact this, HB3.out⟩
          case measure => simp [intOf]; omega
        | false =>
          rw [hb] at WO
          have HBT := hid hb
          go_upto_region 6 with fail
          go_quiet (first | (go_at_call 53; refine (WO.out _).mono ?_; rintro e1 u1 ⟨rfl, rfl⟩; exact ⟨rfl, _, rfl⟩))
          go_upto_region 7 with fail
          obtain ⟨V, hV⟩ : ∃ V, wr.drewN nq = V := ⟨_, rfl⟩
          have BV := hid (show Below W.heap.size W V from by rw [← hV]; exact btr HB.out (bdrew _ _))
          have HOV := hid (show V.ownsRow W.heap.size 89 3 (.slice q m dd) m (lvc acc) from by rw [← hV]; exact own_on HO.out (bdrew _ _))
          rw [hV]
          clear hV k0 k1 k2 k3 k4 k5 a0 a1 a2
          obtain ⟨k0, k1, k2, k3, k4, k5⟩ := row6 (row_on HD.out BV.out)
          obtain ⟨a0, a1, a2⟩ := HCE.out V BV.out
          have HOv := hid (own_on HOV.out (ball V (.cells #[.int .i64 d.pr, .int .u64 d.qt, .int .i64 d.ct] 89)))
          have HBv := hid (btr BV.out (ball V (.cells #[.int .i64 d.pr, .int .u64 d.qt, .int .i64 d.ct] 89)))
          have RN := hid (rdl_new V (lvD d))
          have HLN := hid (lvc_len [lvD d])
          go_upto_region 9 with (at_builtin; refine wpList_app_rd (by rfl) (.tmp 32) (.tmp 40) 28 89 _ 3 24 (by rfl) Try.underlying28 infoL3 rfl (by decide) W.heap.size _ m (lvc acc) (by rfl) HOv.out (some ⟨V.heap.size, 0, none⟩) 1 1 (lvc [lvD d]) (by rfl) (fun e => by cases e) HLN.out RN.out (lvc_one _) (by unfold maxLen; omega) (by omega) HBv.out.size ?_; intro v' U1 hown hgrow; obtain ⟨q', d', rfl⟩ := own_form hown; have HO1 := hid hown; have HBU := hid (below_grown (base := 0) HBv.out HOv.out hgrow); clear hown hgrow)
          obtain ⟨acc2, hacc⟩ : ∃ a, acc ++ [lvD d] = a := ⟨_, rfl⟩
          have HM2 := hid (show m + 1 = acc2.length from by rw [← hacc, List.length_append, ← HM.out]; rfl)
          have HO1' := hid (show U1.ownsRow W.heap.size 89 3 (.slice q' (m + 1) d') (m + 1) (lvc acc2) from by rw [← hacc, lvc_app]; exact HO1.out)
          have HE2 := hid (show acc2 ++ dnl d.sd (lvD d) true (l.drop i) = dnl d.sd (lvD d) (d.ct == 0) l from by rw [← HE.out, ← hacc, HDR.out, dnl_cons_in HBT.out, dnl_cons_t, List.append_assoc])
          clear hacc k0 k1 k2 k3 k4 k5 a0 a1 a2
          obtain ⟨k0, k1, k2, k3, k4, k5⟩ := row6 (row_on HD.out HBU.out)
          obtain ⟨a0, a1, a2⟩ := HCE.out U1 HBU.out
          clear HOv HBv RN HLN
          by_cases hx : y.pr = d.pr
          · have q1 : (y.pr != d.pr) = false := by simpa using hx
            have HX := hid hx
            clear hx
            go_quiet (fail)
            go_wp2
            go_roundw
            case rel => exact ⟨i + 1, true, q', (m + 1), d', acc2, by omega, rfl, rfl, by go_num, HM2.out, own_on HO1'.out (bdrew _ _), by have := HE2.out; rw [HDR.out, dnl_cons_t, if_pos (show y.pr = (lvD d).pr from HX.out)] at this; exact this, btr HBU.out (bdrew _ _)⟩
            case measure => simp [intOf]; omega
          · have q1 : (y.pr != d.pr) = true := by simpa using hx
            have HX := hid hx
            clear hx
            go_quiet (fail)
            go_upto_region 10 with fail
            obtain ⟨V2, hV2⟩ : ∃ V2, U1.drewN nq = V2 := ⟨_, rfl⟩
            have BV2 := hid (show Below W.heap.size W V2 from by rw [← hV2]; exact btr HBU.out (bdrew _ _))
            have HO2 := hid (show V2.ownsRow W.heap.size 89 3 (.slice q' (m + 1) d') (m + 1) (lvc acc2) from by rw [← hV2]; exact own_on HO1'.out (bdrew _ _))
            rw [hV2]
            clear hV2 k0 k1 k2 k3 k4 k5 a0 a1 a2
            obtain ⟨a0, a1, a2⟩ := HCE.out V2 BV2.out
            have HOv := hid (own_on HO2.out (ball V2 (.cells #[.int .i64 y.pr, .int .u64 y.qt, .int .i64 y.ct] 89)))
            have HBv := hid (btr BV2.out (ball V2 (.cells #[.int .i64 y.pr, .int .u64 y.qt, .int .i64 y.ct] 89)))
            have RN := hid (rdl_new V2 y)
            have HLN := hid (lvc_len [y])
            go_wp2_with (at_builtin; refine wpList_app_rd (by rfl) (.tmp 50) (.tmp 55) 28 89 _ 3 24 (by rfl) Try.underlying28 infoL3 rfl (by decide) W.heap.size _ (m + 1) (lvc acc2) (by rfl) HOv.out (some ⟨V2.heap.size, 0, none⟩) 1 1 (lvc [y]) (by rfl) (fun e => by cases e) HLN.out RN.out (lvc_one _) (by unfold maxLen; omega) (by omega) HBv.out.size ?_; intro v' U3 hown hgrow; obtain ⟨q3, d3, rfl⟩ := own_form hown; have HO3 := hid hown; have HB3 := hid (below_grown (base := 0) HBv.out HOv.out hgrow); clear hown hgrow)
            go_roundw
            case rel => exact ⟨i + 1, true, q3, (m + 1) + 1, d3, acc2 ++ [y], by omega, rfl, rfl, by go_num, by rw [List.length_append, ← HM2.out]; rfl, by rw [lvc_app]; exact HO3.out, by have := HE2.out; rw [HDR.out, dnl_cons_t, if_neg (show ¬ y.pr = (lvD d).pr from HX.out), ← List.append_assoc] at this; exact this, HB3.out⟩
            case measure => simp [intOf]; omega
    · obtain rfl : i = n := by omega
      have hd0 : l.drop i = [] := List.drop_eq_nil_of_le (by have := HN.out; omega)
      obtain ⟨k0, k1, k2, k3, k4, k5⟩ := row6 (row_on HD.out HB.out)
      cases put with
      | true =>
        have E := hid (show acc = dnl d.sd (lvD d) (d.ct == 0) l from by rw [← HE.out, hd0]; simp [dnl])
        go_wp2
        go_ret
        refine ⟨q, dd, by rw [← E.out, ← HM.out]; rfl, ?_, btr HB0.out HB.out⟩
        rw [← E.out]
        have := HO.out
        rw [HM.out] at this
        exact Lo.base this HB0.out.size
      | false =>
        have E := hid (show acc ++ [lvD d] = dnl d.sd (lvD d) (d.ct == 0) l from by rw [← HE.out, hd0]; simp [dnl])
        have HOv := hid (own_on HO.out (ball wr (.cells #[.int .i64 d.pr, .int .u64 d.qt, .int .i64 d.ct] 89)))
        have HBv := hid (btr HB.out (ball wr (.cells #[.int .i64 d.pr, .int .u64 d.qt, .int .i64 d.ct] 89)))
        have RN := hid (rdl_new wr (lvD d))
        have HLN := hid (lvc_len [lvD d])
        go_wp2_with (at_builtin; refine wpList_app_rd (by rfl) (.tmp 59) (.tmp 67) 28 89 _ 3 24 (by rfl) Try.underlying28 infoL3 rfl (by decide) W.heap.size _ m (lvc acc) (by rfl) HOv.out (some ⟨wr.heap.size, 0, none⟩) 1 1 (lvc [lvD d]) (by rfl) (fun e => by cases e) HLN.out RN.out (lvc_one _) (by unfold maxLen; omega) (by omega) HBv.out.size ?_; intro v' U1 hown hgrow; obtain ⟨q', d', rfl⟩ := own_form hown; have HO1 := hid hown; have HBU := hid (below_grown (base := 0) HBv.out HOv.out hgrow); clear hown hgrow)
        go_ret
        have HLl := hid (show m + 1 = (acc ++ [lvD d]).length from by rw [List.length_append, ← HM.out]; rfl)
        refine ⟨q', d', by rw [← E.out, ← HLl.out]; rfl, ?_, btr HB0.out HBU.out⟩
        rw [← E.out]
        have := HO1.out
        rw [← lvc_app, HLl.out] at this
        exact Lo.base this HB0.out.size
end Go.Proofs.Ytiphgfghdbmlcaa
