/-
  The document's place, ahead, Curve, At.
-/
import Derived.Test.YtnmkfdndfhefiaaGreatGc
import Derived.Test.YtnmkfdndfhefiaaGreatGd
namespace Go.Proofs.YtnmkfdndfhefiaaGreat
open Go.RowKit Go.Deep Go.Shelf
set_option linter.unusedVariables false
set_option linter.unusedSimpArgs false
set_option maxHeartbeats 8000000
set_option maxRecDepth 100000
/-- the document's call is boxed. -/
theorem box_call {w W : World} {r m : Int} {v : Value} {R : Nat} (hW : w.alloc (.cells #[.int .i64 r, .int .i64 m, v] 29) = W) (hR : w.heap.size = R) : Below w.heap.size w W ∧ W.heap[R]? = some (.cells #[.int .i64 r, .int .i64 m, v] 29 (0, 0)) := by
  rw [← hW, ← hR]
  exact ⟨ball _ _, World.alloc_heap_new _ _⟩
theorem row3 {w : World} {g : Nat} {t : TypeId} {a0 a1 a2 : Value} (h : w.heap[g]? = some (.cells #[a0, a1, a2] t (0, 0))) : w.cell? ⟨g, 0, none⟩ = some a0 ∧ w.cell? ⟨g, 1, none⟩ = some a1 ∧ w.cell? ⟨g, 2, none⟩ = some a2 := ⟨row_cell h 0, row_cell h 1, row_cell h 2⟩
theorem rplace_any (r m id : Int) (p : Option Addr) (c : Nat) (L : List It) (w : World) (h : Li w p c L) (hn : L.length ≤ 4096) :
    Calls Tryz.prog 28 #[.agg #[.int .i64 r, .int .i64 m, .slice p L.length c], .int .u64 id] w fun e w' => e = .returned (.int .i64 (fni id L)) ∧ Below w.heap.size w w' := by
  obtain ⟨n, hnn⟩ : ∃ n, L.length = n := ⟨_, rfl⟩
  have HN := hid hnn
  rw [hnn] at hn ⊢
  obtain ⟨R, hR⟩ : ∃ R, w.heap.size = R := ⟨_, rfl⟩
  obtain ⟨W, hW⟩ : ∃ W, w.alloc (.cells #[.int .i64 r, .int .i64 m, .slice p n c] 29) = W := ⟨_, rfl⟩
  obtain ⟨hb, hK⟩ := box_call hW hR
  obtain ⟨k0, k1, k2⟩ := row3 hK
  have HBW := hid hb
  have H := hid (h.on hb)
  have HW := hid hW
  have HRR := hid hR
  clear hnn h hW hR hb hK
  go_enter Tryz.func28, Tryz.ntmps28
  go_upto_region 1 with fail
  rw [HW.out, HRR.out]
  go_upto_region 2 with fail
  go_loopw [5] (fun iv wr => ∃ i : Nat, i ≤ n ∧ iv = .int .i64 i ∧ Hid (∀ j (hj : j < L.length), j < i → (L[j]).id ≠ id) ∧ Hid (W = wr)) (fun iv _ => n - (intOf iv).toNat)
  case atStart => exact ⟨0, Nat.zero_le _, rfl, hid (fun j hj h => by omega), hid rfl⟩
  case round =>
    obtain ⟨i, hin, rfl, HJ, HX⟩ := hrel
    have hw := HX.out
    subst hw
    by_cases hlt : i < n
    · have hi : i < L.length := by rw [HN.out]; exact hlt
      obtain ⟨g, hp, a0, a1, a2, a3, a4, a5⟩ := H.out.cells hi
      subst hp
      obtain ⟨z, hz⟩ : ∃ z, L[i] = z := ⟨_, rfl⟩
      rw [hz] at a0 a1 a2 a3 a4 a5
      have HZ := hid hz
      have i0 : (0 : Int) ≤ (i : Int) := by omega
      have i1 : (i : Int) < (n : Int) := by omega
      clear hz
      by_cases he : z.id = id
      · have t1 : (z.id == id) = true := by simpa using he
        have HE := hid he
        clear he
        go_wp2
        go_ret
        exact ⟨by rw [fni_at hi HJ.out (by rw [HZ.out]; exact HE.out)]; rfl, HBW.out⟩
      · have t1 : (z.id == id) = false := by simpa using he
        have HE := hid he
        clear he
        go_wp2
        go_roundw
        case rel =>
          refine ⟨i + 1, by omega, by go_num, hid (fun j hj hl => ?_), hid (by first | rfl | trivial)⟩
          by_cases hji : j = i
          · subst hji; rw [HZ.out]; exact HE.out
          · exact HJ.out j hj (by omega)
        case measure => simp [intOf]; omega
    · obtain rfl : i = n := by omega
      go_wp2
      go_ret
      exact ⟨by rw [fni_none (fun j hj => HJ.out j hj (by have := HN.out; omega))]; rfl, HBW.out⟩
theorem rahead_any (s : Int) (x y : It) (w : World) (hx : Ik s x) (hy : Ik s y) (hs : s = 1 ∨ s = 2) :
    Calls Tryz.prog 46 #[.agg #[.int .u64 x.id, .int .u32 x.mb, .int .i64 x.sd, .int .i64 x.ty, .int .i64 x.pr, .int .u64 x.qt], .agg #[.int .u64 y.id, .int .u32 y.mb, .int .i64 y.sd, .int .i64 y.ty, .int .i64 y.pr, .int .u64 y.qt]] w fun e w' => e = .returned (.bool (ahd x y)) ∧ Below w.heap.size w w' := by
  have htx := hx.ty
  have hty := hy.ty
  have hsx := hx.sd
  have mx := hx.mz
  have my := hy.mz
  clear hx hy
  rcases htx with htx | htx <;> rcases hty with hty | hty
  · have t0 : (x.ty != y.ty) = false := by simp [htx, hty]
    have t1 : (x.ty == 2) = false := by simp [htx]
    rcases hs with hs | hs
    · have t2 : (x.sd == 1) = true := by simp [hsx, hs]
      have t3 : (x.sd == 2) = false := by simp [hsx, hs]
      have HE := hid (show ahd x y = decide (y.pr < x.pr) from by unfold ahd; rw [if_pos (by omega), if_pos (by omega)])
      by_cases hc : y.pr < x.pr
      · have d1 : decide (y.pr < x.pr) = true := by simpa using hc
        rw [d1] at HE
        clear hs htx hty hsx mx my hc
        go_enter Tryz.func46, Tryz.ntmps46
        go_wp2
        go_ret
        exact ⟨by rw [HE.out]; rfl, btr (ball _ _) (ball _ _)⟩
      · have d1 : decide (y.pr < x.pr) = false := by simpa using hc
        rw [d1] at HE
        clear hs htx hty hsx mx my hc
        go_enter Tryz.func46, Tryz.ntmps46
        go_wp2
        go_ret
        exact ⟨by rw [HE.out]; rfl, btr (ball _ _) (ball _ _)⟩
    · have t2 : (x.sd == 1) = false := by simp [hsx, hs]
      have t3 : (x.sd == 2) = true := by simp [hsx, hs]
      have HE := hid (show ahd x y = decide (x.pr < y.pr) from by unfold ahd; rw [if_pos (by omega), if_neg (by omega)])
      by_cases hc : x.pr < y.pr
      · have d1 : decide (x.pr < y.pr) = true := by simpa using hc
        rw [d1] at HE
        clear hs htx hty hsx mx my hc
        go_enter Tryz.func46, Tryz.ntmps46
        go_wp2
        go_ret
        exact ⟨by rw [HE.out]; rfl, btr (ball _ _) (ball _ _)⟩
      · have d1 : decide (x.pr < y.pr) = false := by simpa using hc
        rw [d1] at HE
        clear hs htx hty hsx mx my hc
        go_enter Tryz.func46, Tryz.ntmps46
        go_wp2
        go_ret
        exact ⟨by rw [HE.out]; rfl, btr (ball _ _) (ball _ _)⟩
  · have t0 : (x.ty != y.ty) = true := by simp [htx, hty]
    have t1 : (x.ty == 2) = false := by simp [htx]
    have HE := hid (show ahd x y = false from by unfold ahd; rw [if_neg (by omega), htx]; rfl)
    clear hs htx hty hsx mx my
    go_enter Tryz.func46, Tryz.ntmps46
    go_wp2
    go_ret
    exact ⟨by rw [HE.out]; rfl, btr (ball _ _) (ball _ _)⟩
  · have t0 : (x.ty != y.ty) = true := by simp [htx, hty]
    have t1 : (x.ty == 2) = true := by simp [htx]
    have HE := hid (show ahd x y = true from by unfold ahd; rw [if_neg (by omega), htx]; rfl)
    clear hs htx hty hsx mx my
    go_enter Tryz.func46, Tryz.ntmps46
    go_wp2
    go_ret
    exact ⟨by rw [HE.out]; rfl, btr (ball _ _) (ball _ _)⟩
  · have t0 : (x.ty != y.ty) = false := by simp [htx, hty]
    have t1 : (x.ty == 2) = true := by simp [htx]
    have HE := hid (show ahd x y = false from by have a := mx htx; have b := my hty; unfold ahd; rw [if_pos (by omega), a, b]; split <;> simp)
    clear hs htx hty hsx mx my
    go_enter Tryz.func46, Tryz.ntmps46
    go_wp2
    go_ret
    exact ⟨by rw [HE.out]; rfl, btr (ball _ _) (ball _ _)⟩
theorem fil_step {f : It → Bool} {l : List It} {i : Nat} (hi : i < l.length) : tot ((l.take (i + 1)).filter f) = tot ((l.take i).filter f) + (if f l[i] = true then l[i].qt else 0) := by
  rw [List.take_succ_eq_append_getElem hi, List.filter_append, tot_app]
  congr 1
  by_cases h : f l[i] = true
  · rw [if_pos h, List.filter_cons, if_pos h, List.filter_nil, tot_cons, tot_nil]; omega
  · rw [if_neg h, List.filter_cons, if_neg h, List.filter_nil, tot_nil]
theorem rcurve_any (r m pr : Int) (p : Option Addr) (c : Nat) (L : List It) (w : World) (h : Li w p c L) (hn : L.length ≤ 4096) (hk : ∀ x ∈ L, Ik x.sd x ∧ (x.sd = 1 ∨ x.sd = 2)) :
    Calls Tryz.prog 16 #[.agg #[.int .i64 r, .int .i64 m, .slice p L.length c], .int .i64 pr] w fun e w' => e = .returned (.tuple #[.int .u64 (tot (L.filter (vb pr))), .int .u64 (tot (L.filter (vs pr)))]) ∧ Below w.heap.size w w' := by
  obtain ⟨n, hnn⟩ : ∃ n, L.length = n := ⟨_, rfl⟩
  have HN := hid hnn
  rw [hnn] at hn ⊢
  obtain ⟨R, hR⟩ : ∃ R, w.heap.size = R := ⟨_, rfl⟩
  obtain ⟨W, hW⟩ : ∃ W, w.alloc (.cells #[.int .i64 r, .int .i64 m, .slice p n c] 29) = W := ⟨_, rfl⟩
  obtain ⟨hb, hK⟩ := box_call hW hR
  have HK := hid hK
  have HBW := hid hb
  have H := hid (h.on hb)
  have HW := hid hW
  have HRR := hid hR
  clear hnn h hW hR hb hK
  go_enter Tryz.func16, Tryz.ntmps16
  go_upto_region 1 with fail
  rw [HW.out, HRR.out]
  go_upto_region 3 with fail
  go_loopw [6, 7, 8] (fun bv sv iv wr => ∃ (i : Nat) (x y : Int), i ≤ n ∧ iv = .int .i64 i ∧ bv = .int .u64 x ∧ sv = .int .u64 y ∧ 0 ≤ x ∧ x ≤ 4294967295 * i ∧ 0 ≤ y ∧ y ≤ 4294967295 * i ∧ Hid (x = tot ((L.take i).filter (vb pr))) ∧ Hid (y = tot ((L.take i).filter (vs pr))) ∧ Hid (Below W.heap.size W wr)) (fun _ _ iv _ => n - (intOf iv).toNat)
  case atStart => exact ⟨0, 0, 0, Nat.zero_le _, rfl, rfl, rfl, by omega, by omega, by omega, by omega, hid rfl, hid rfl, hid (Below.refl _ _)⟩
  case round =>
    obtain ⟨i, x, y, hin, rfl, rfl, rfl, x0, x1, y0, y1, HX, HY, HB⟩ := hrel
    obtain ⟨k0, k1, k2⟩ := row3 (row_on HK.out HB.out)
    by_cases hlt : i < n
    · have hi : i < L.length := by rw [HN.out]; exact hlt
      obtain ⟨g, hp, a0, a1, a2, a3, a4, a5⟩ := (H.out.on HB.out).cells hi
      subst hp
      have hik := hk L[i] (List.getElem_mem hi)
      have f1 := fil_step (f := vb pr) hi
      have f2 := fil_step (f := vs pr) hi
      rw [← HX.out] at f1
      rw [← HY.out] at f2
      obtain ⟨z, hz⟩ : ∃ z, L[i] = z := ⟨_, rfl⟩
      rw [hz] at a0 a1 a2 a3 a4 a5 hik f1 f2
      have i0 : (0 : Int) ≤ (i : Int) := by omega
      have i1 : (i : Int) < (n : Int) := by omega
      have q0 := hik.1.q0
      have q1 := hik.1.q1
      have w1 : IntKind.u64.wrap (x + z.qt) = x + z.qt := by rw [IntKind.wrap_u64]; omega
      have w2 : IntKind.u64.wrap (y + z.qt) = y + z.qt := by rw [IntKind.wrap_u64]; omega
      have hty := hik.1.ty
      have hsd := hik.2
      have BX := hid (btr HB.out (ball wr (.cells #[.int .u64 z.id, .int .u32 z.mb, .int .i64 z.sd, .int .i64 z.ty, .int .i64 z.pr, .int .u64 z.qt] 35)))
      clear hz hik HX HY
      rcases hsd with hsd | hsd
      · have t1 : (z.sd == 1) = true := by simp [hsd]
        have t2 : (z.sd == 2) = false := by simp [hsd]
        have e2 : vs pr z = false := by unfold vs; rw [t2]; rfl
        rcases hty with hty | hty
        · have t3 : (z.ty == 2) = false := by simp [hty]
          by_cases hp : pr ≤ z.pr
          · have e1 : vb pr z = true := by unfold vb acc; rw [t1, hsd, hty]; simpa using hp
            rw [e1, if_pos rfl] at f1
            rw [e2, if_neg (by decide)] at f2
            have F1 := hid f1
            have F2 := hid f2
            clear f1 f2 hsd hty e1 e2
            go_wp2
            go_roundw
            case rel => exact ⟨i + 1, x + z.qt, y, by omega, by go_num, rfl, rfl, by omega, by omega, by omega, by omega, hid (by have := F1.out; omega), hid (by have := F2.out; omega), BX⟩
            case measure => simp [intOf]; omega
          · have e1 : vb pr z = false := by unfold vb acc; rw [t1, hsd, hty]; simpa using hp
            rw [e1, if_neg (by decide)] at f1
            rw [e2, if_neg (by decide)] at f2
            have F1 := hid f1
            have F2 := hid f2
            clear f1 f2 hsd hty e1 e2
            go_wp2
            go_roundw
            case rel => exact ⟨i + 1, x, y, by omega, by go_num, rfl, rfl, by omega, by omega, by omega, by omega, hid (by have := F1.out; omega), hid (by have := F2.out; omega), BX⟩
            case measure => simp [intOf]; omega
        · have t3 : (z.ty == 2) = true := by simp [hty]
          have e1 : vb pr z = true := by unfold vb acc; rw [t1, hsd, hty]; rfl
          rw [e1, if_pos rfl] at f1
          rw [e2, if_neg (by decide)] at f2
          have F1 := hid f1
          have F2 := hid f2
          clear f1 f2 hsd hty e1 e2
          go_wp2
          go_roundw
          case rel => exact ⟨i + 1, x + z.qt, y, by omega, by go_num, rfl, rfl, by omega, by omega, by omega, by omega, hid (by have := F1.out; omega), hid (by have := F2.out; omega), BX⟩
          case measure => simp [intOf]; omega
      · have t1 : (z.sd == 1) = false := by simp [hsd]
        have t2 : (z.sd == 2) = true := by simp [hsd]
        have e1 : vb pr z = false := by unfold vb; rw [t1]; rfl
        rcases hty with hty | hty
        · have t3 : (z.ty == 2) = false := by simp [hty]
          by_cases hp : z.pr ≤ pr
          · have e2 : vs pr z = true := by unfold vs acc; rw [t2, hsd, hty]; simpa using hp
            rw [e1, if_neg (by decide)] at f1
            rw [e2, if_pos rfl] at f2
            have F1 := hid f1
            have F2 := hid f2
            clear f1 f2 hsd hty e1 e2
            go_wp2
            go_roundw
            case rel => exact ⟨i + 1, x, y + z.qt, by omega, by go_num, rfl, rfl, by omega, by omega, by omega, by omega, hid (by have := F1.out; omega), hid (by have := F2.out; omega), BX⟩
            case measure => simp [intOf]; omega
          · have e2 : vs pr z = false := by unfold vs acc; rw [t2, hsd, hty]; simpa using hp
            rw [e1, if_neg (by decide)] at f1
            rw [e2, if_neg (by decide)] at f2
            have F1 := hid f1
            have F2 := hid f2
            clear f1 f2 hsd hty e1 e2
            go_wp2
            go_roundw
            case rel => exact ⟨i + 1, x, y, by omega, by go_num, rfl, rfl, by omega, by omega, by omega, by omega, hid (by have := F1.out; omega), hid (by have := F2.out; omega), BX⟩
            case measure => simp [intOf]; omega
        · have t3 : (z.ty == 2) = true := by simp [hty]
          have e2 : vs pr z = true := by unfold vs acc; rw [t2, hsd, hty]; rfl
          rw [e1, if_neg (by decide)] at f1
          rw [e2, if_pos rfl] at f2
          have F1 := hid f1
          have F2 := hid f2
          clear f1 f2 hsd hty e1 e2
          go_wp2
          go_roundw
          case rel => exact ⟨i + 1, x, y + z.qt, by omega, by go_num, rfl, rfl, by omega, by omega, by omega, by omega, hid (by have := F1.out; omega), hid (by have := F2.out; omega), BX⟩
          case measure => simp [intOf]; omega
    · obtain rfl : i = n := by omega
      have e : L.take i = L := List.take_of_length_le (by rw [HN.out]; exact Nat.le_refl _)
      rw [e] at HX HY
      go_wp2
      go_ret2
      exact ⟨by rw [← HX.out, ← HY.out]; rfl, btr HBW.out HB.out⟩
theorem tot_b {L : List It} {f : It → Bool} (hn : L.length ≤ 4096) (hk : ∀ x ∈ L, Ik x.sd x ∧ (x.sd = 1 ∨ x.sd = 2)) : 0 ≤ tot (L.filter f) ∧ tot (L.filter f) ≤ 17592186044416 := by
  have go : ∀ l : List It, (∀ x ∈ l, Ik x.sd x) → 0 ≤ tot l ∧ tot l ≤ 4294967295 * l.length := by
    intro l
    induction l with
    | nil => intro _; simp [tot]
    | cons x l ih =>
      intro h
      have a := ih (fun y hy => h y (by simp [hy]))
      have b := (h x (by simp)).q0
      have c := (h x (by simp)).q1
      rw [tot_cons, List.length_cons]
      omega
  have a := go (L.filter f) (fun x hx => (hk x (List.mem_filter.1 hx).1).1)
  have b := List.length_filter_le f L
  omega
theorem rAt_any (r m pr : Int) (p : Option Addr) (c : Nat) (L : List It) (w : World) (h : Li w p c L) (hn : L.length ≤ 4096) (hk : ∀ x ∈ L, Ik x.sd x ∧ (x.sd = 1 ∨ x.sd = 2)) :
    Calls Tryz.prog 69 #[.agg #[.int .i64 r, .int .i64 m, .slice p L.length c], .int .i64 pr] w fun e w' => e = .returned (.agg (qrow (qAt pr (tot (L.filter (vb pr))) (tot (L.filter (vs pr)))))) ∧ Below w.heap.size w w' := by
  obtain ⟨B1, B2⟩ := tot_b (f := vb pr) hn hk
  obtain ⟨S1, S2⟩ := tot_b (f := vs pr) hn hk
  have CC := hid (fun U (hU : Below w.heap.size w U) => rcurve_any r m pr p c L U (h.on hU) hn hk)
  obtain ⟨bu, hbu⟩ : ∃ v, tot (L.filter (vb pr)) = v := ⟨_, rfl⟩
  obtain ⟨se, hse⟩ : ∃ v, tot (L.filter (vs pr)) = v := ⟨_, rfl⟩
  rw [hbu] at CC B1 B2 ⊢
  rw [hse] at CC S1 S2 ⊢
  obtain ⟨n, hnn⟩ : ∃ n, L.length = n := ⟨_, rfl⟩
  rw [hnn] at CC ⊢
  obtain ⟨W, hW⟩ : ∃ W, (w.alloc (.cells #[.int .i64 r, .int .i64 m, .slice p n c] 29)).alloc (.cells #[.int .i64 0, .int .u64 0, .int .u64 0, .int .i64 0, .int .i64 0] 57) = W := ⟨_, rfl⟩
  obtain ⟨R, hR⟩ : ∃ R, w.heap.size = R := ⟨_, rfl⟩
  have HRR := hid hR
  have HBW := hid (show Below w.heap.size w W from by rw [← hW]; exact btr (ball _ _) (ball _ _))
  have hK : W.heap[R]? = some (.cells #[.int .i64 r, .int .i64 m, .slice p n c] 29 (0, 0)) := by rw [← hW, ← hR]; exact row_on (World.alloc_heap_new _ _) (ball _ _)
  have HZ := hid (show W.heap[R + 1]? = some (.cells #[.int .i64 0, .int .u64 0, .int .u64 0, .int .i64 0, .int .i64 0] 57 (0, 0)) from by
    rw [← hW, ← hR]
    have := World.alloc_heap_new (w.alloc (.cells #[.int .i64 r, .int .i64 m, .slice p n c] 29)) (.cells #[.int .i64 0, .int .u64 0, .int .u64 0, .int .i64 0, .int .i64 0] 57)
    simpa using this)
  obtain ⟨k0, k1, k2⟩ := row3 hK
  have HW := hid hW
  have CW := hid (CC.out W HBW.out)
  clear hW hR hK CC h hk hbu hse hnn hn
  by_cases hc1 : se < bu
  · have HQ := hid (show qAt pr bu se = ⟨pr, se, bu - se, 1, 0⟩ from by unfold qAt; rw [if_pos hc1])
    have d1 : decide (se < bu) = true := decide_eq_true hc1
    have w1 : IntKind.u64.wrap (bu - se) = bu - se := by rw [IntKind.wrap_u64]; omega
    clear hc1
    go_enter Tryz.func69, Tryz.ntmps69
    go_upto_region 1 with fail
    rw [HW.out, HRR.out]
    go_upto_region 3 with (go_at_call 16; with_reducible refine (CW.out).mono ?_; rintro e v1 ⟨rfl, hb⟩; have V1 := hid hb; clear hb)
    have HZ1 := hid (row_on HZ.out V1.out)
    have AI := hid (show (Tryz.prog.info? 57).map (·.size) = some (#[.int .i64 pr, .int .u64 se, .int .u64 (bu - se), .int .i64 1, .int .i64 0] : Array Value).size from infoQ)
    have AS := hid (show (#[.int .i64 0, .int .u64 0, .int .u64 0, .int .i64 0, .int .i64 0] : Array Value).size = (#[.int .i64 pr, .int .u64 se, .int .u64 (bu - se), .int .i64 1, .int .i64 0] : Array Value).size from rfl)
    have AA := hid (show (#[.int .i64 pr, .int .u64 se, .int .u64 (bu - se), .int .i64 1, .int .i64 0] : Array Value).all (·.oneCell') = true from by simp [Value.oneCell'])
    go_wp2_with (refine wpList_store_row (by rfl) 57 (.tmp 4) (.tmp 22) (by rfl) (R + 1) #[.int .i64 pr, .int .u64 se, .int .u64 (bu - se), .int .i64 1, .int .i64 0] (by rfl) (by rfl) 57 _ HZ1.out AI.out AS.out AA.out ?_)
    refine bodyPost_ret (results_cell_row (fn := Tryz.f69) Tryz.results69 _ _ (R + 1) 57 #[.int .i64 pr, .int .u64 se, .int .u64 (bu - se), .int .i64 1, .int .i64 0] (0, 0) _ (by rfl) (setRow_heap _ _ _ _ 57 (0, 0) HZ1.out) Tryz.underlying57 rfl infoQ) rfl ⟨by rw [HQ.out]; rfl, ?_⟩
    exact setRow_below (btr HBW.out V1.out) (by have := HRR.out; omega)
  · by_cases hc2 : bu < se
    · have HQ := hid (show qAt pr bu se = ⟨pr, bu, se - bu, 2, 0⟩ from by unfold qAt; rw [if_neg hc1, if_pos hc2])
      have d1 : decide (se < bu) = false := decide_eq_false hc1
      have d2 : decide (bu < se) = true := decide_eq_true hc2
      have w1 : IntKind.u64.wrap (se - bu) = se - bu := by rw [IntKind.wrap_u64]; omega
      clear hc1 hc2
      go_enter Tryz.func69, Tryz.ntmps69
      go_upto_region 1 with fail
      rw [HW.out, HRR.out]
      go_upto_region 5 with (go_at_call 16; with_reducible refine (CW.out).mono ?_; rintro e v1 ⟨rfl, hb⟩; have V1 := hid hb; clear hb)
      have HZ1 := hid (row_on HZ.out V1.out)
      have AI := hid (show (Tryz.prog.info? 57).map (·.size) = some (#[.int .i64 pr, .int .u64 bu, .int .u64 (se - bu), .int .i64 2, .int .i64 0] : Array Value).size from infoQ)
      have AS := hid (show (#[.int .i64 0, .int .u64 0, .int .u64 0, .int .i64 0, .int .i64 0] : Array Value).size = (#[.int .i64 pr, .int .u64 bu, .int .u64 (se - bu), .int .i64 2, .int .i64 0] : Array Value).size from rfl)
      have AA := hid (show (#[.int .i64 pr, .int .u64 bu, .int .u64 (se - bu), .int .i64 2, .int .i64 0] : Array Value).all (·.oneCell') = true from by simp [Value.oneCell'])
      go_wp2_with (refine wpList_store_row (by rfl) 57 (.tmp 4) (.tmp 32) (by rfl) (R + 1) #[.int .i64 pr, .int .u64 bu, .int .u64 (se - bu), .int .i64 2, .int .i64 0] (by rfl) (by rfl) 57 _ HZ1.out AI.out AS.out AA.out ?_)
      refine bodyPost_ret (results_cell_row (fn := Tryz.f69) Tryz.results69 _ _ (R + 1) 57 #[.int .i64 pr, .int .u64 bu, .int .u64 (se - bu), .int .i64 2, .int .i64 0] (0, 0) _ (by rfl) (setRow_heap _ _ _ _ 57 (0, 0) HZ1.out) Tryz.underlying57 rfl infoQ) rfl ⟨by rw [HQ.out]; rfl, ?_⟩
      exact setRow_below (btr HBW.out V1.out) (by have := HRR.out; omega)
    · have HQ := hid (show qAt pr bu se = ⟨pr, bu, 0, 0, 0⟩ from by unfold qAt; rw [if_neg hc1, if_neg hc2])
      have d1 : decide (se < bu) = false := decide_eq_false hc1
      have d2 : decide (bu < se) = false := decide_eq_false hc2
      clear hc1 hc2
      go_enter Tryz.func69, Tryz.ntmps69
      go_upto_region 1 with fail
      rw [HW.out, HRR.out]
      go_upto_region 6 with (go_at_call 16; with_reducible refine (CW.out).mono ?_; rintro e v1 ⟨rfl, hb⟩; have V1 := hid hb; clear hb)
      have HZ1 := hid (row_on HZ.out V1.out)
      have AI := hid (show (Tryz.prog.info? 57).map (·.size) = some (#[.int .i64 pr, .int .u64 bu, .int .u64 0, .int .i64 0, .int .i64 0] : Array Value).size from infoQ)
      have AS := hid (show (#[.int .i64 0, .int .u64 0, .int .u64 0, .int .i64 0, .int .i64 0] : Array Value).size = (#[.int .i64 pr, .int .u64 bu, .int .u64 0, .int .i64 0, .int .i64 0] : Array Value).size from rfl)
      have AA := hid (show (#[.int .i64 pr, .int .u64 bu, .int .u64 0, .int .i64 0, .int .i64 0] : Array Value).all (·.oneCell') = true from by simp [Value.oneCell'])
      go_wp2_with (refine wpList_store_row (by rfl) 57 (.tmp 4) (.tmp 35) (by rfl) (R + 1) #[.int .i64 pr, .int .u64 bu, .int .u64 0, .int .i64 0, .int .i64 0] (by rfl) (by rfl) 57 _ HZ1.out AI.out AS.out AA.out ?_)
      refine bodyPost_ret (results_cell_row (fn := Tryz.f69) Tryz.results69 _ _ (R + 1) 57 #[.int .i64 pr, .int .u64 bu, .int .u64 0, .int .i64 0, .int .i64 0] (0, 0) _ (by rfl) (setRow_heap _ _ _ _ 57 (0, 0) HZ1.out) Tryz.underlying57 rfl infoQ) rfl ⟨by rw [HQ.out]; rfl, ?_⟩
      exact setRow_below (btr HBW.out V1.out) (by have := HRR.out; omega)
end Go.Proofs.YtnmkfdndfhefiaaGreat
