/-
  A side behind an uncross is fair (the law's own call).
-/
import Derived.Test.YtknikhoobhgidaaFrT
namespace Go.Proofs.Ytknikhoobhgidaa
open Go.RowKit Go.Deep Go.Shelf
set_option linter.unusedVariables false
set_option linter.unusedSimpArgs false
set_option maxHeartbeats 16000000
set_option maxRecDepth 100000
/-- what a round finds. -/
structure Rd (V sd p : Int) (y : It) (nn lf t : Int) (o : Bool) (x : Int) : Prop where
  ik : Ik sd y
  n : nn = min y.qt (max 0 (V - t))
  l : lf = y.qt - nn
  a : t < V → acc p y = true
  t0 : 0 ≤ t
  v0 : 0 ≤ V
  o : o = decide (V < t)
  x : x = min V t
theorem Rd.next {V sd p : Int} {y : It} {nn lf t : Int} {o : Bool} {x : Int} (h : Rd V sd p y nn lf t o x) : (o || decide (nn < y.qt)) = decide (V < t + y.qt) ∧ x + nn = min V (t + y.qt) := by
  obtain ⟨h1, h2, h3, h4, h5, h6, h7, h8⟩ := h
  have q0 := h1.q0
  refine ⟨?_, by omega⟩
  rw [h7, Bool.eq_iff_iff]
  simp only [Bool.or_eq_true, decide_eq_true_eq]
  omega
theorem fair_any (p p2 pf : Option Addr) (c c2 cf : Nat) (b now : List It) (F : List Fi) (z : Qt) (sd : Int) (w : World) (h : Li w p c b) (h2 : Li w p2 c2 now) (hf : Fz w pf cf F) (hp : Prt z.vo sd z.pr b now F) (hsd : sd = 1 ∨ sd = 2) (hnl : now.length ≤ 4096) (hfl : F.length ≤ 8192) (hfq : ∀ f ∈ F, 0 ≤ f.qt ∧ f.qt ≤ 4294967295) :
    Calls Try.prog 16 #[.slice p b.length c, .slice p2 now.length c2, .slice pf F.length cf, .agg #[.int .i64 z.pr, .int .u64 z.vo, .int .u64 z.su, .int .i64 z.sd, .int .i64 z.ru], .int .i64 sd] w fun e w' => e = .returned (.bool true) ∧ Below w.heap.size w w' := by
  obtain ⟨W, hW⟩ : ∃ W, w.alloc (.cells #[.int .i64 z.pr, .int .u64 z.vo, .int .u64 z.su, .int .i64 z.sd, .int .i64 z.ru] 30) = W := ⟨_, rfl⟩
  obtain ⟨R, hR⟩ : ∃ R, w.heap.size = R := ⟨_, rfl⟩
  have HBW := hid (show Below w.heap.size w W from by rw [← hW]; exact ball _ _)
  have HCE := hid (show ∀ U, Below W.heap.size W U → U.cell? ⟨R, 0, none⟩ = some (.int .i64 z.pr) ∧ U.cell? ⟨R, 1, none⟩ = some (.int .u64 z.vo) from fun U hU => by
    have a : W.heap[R]? = some (.cells #[.int .i64 z.pr, .int .u64 z.vo, .int .u64 z.su, .int .i64 z.sd, .int .i64 z.ru] 30 (0, 0)) := by rw [← hW, ← hR]; exact World.alloc_heap_new _ _
    have a := row_on a hU
    have a0 := row_cell a 0
    have a1 := row_cell a 1
    simp only [List.getElem?_toArray, List.getElem?_cons_succ, List.getElem?_cons_zero] at a0 a1
    exact ⟨a0, a1⟩)
  have CT := hid (fun (U : World) (hU : Below W.heap.size W U) (id : Int) => tradedL_any pf cf F id sd U ((hf.on HBW.out).on hU) hfl hfq hsd)
  have CL := hid (fun (U : World) (hU : Below W.heap.size W U) (id : Int) => (left_any p2 c2 now id U ((h2.on HBW.out).on hU) hnl).mono (R' := fun e w' => e = .returned (.int .u64 (lfo id now)) ∧ w' = U) (fun e w' hh => ⟨hh.1, hh.2.symm⟩))
  have HL := hid (fun (U : World) (hU : Below W.heap.size W U) => (h.on HBW.out).on hU)
  have HP := hid hp
  obtain ⟨n, hn⟩ : ∃ n, b.length = n := ⟨_, rfl⟩
  obtain ⟨n2, hn2⟩ : ∃ n, now.length = n := ⟨_, rfl⟩
  obtain ⟨nf, hnf⟩ : ∃ n, F.length = n := ⟨_, rfl⟩
  have HN := hid hn
  have hln := hp.sk.ln
  rw [hn] at hln ⊢
  rw [hn2] at CL ⊢
  rw [hnf] at CT ⊢
  have HW := hid hW
  have HRR := hid hR
  clear hW hR h h2 hf hp hnl hfl hfq hn hn2 hnf
  go_enter Try.func16, Try.ntmps16
  go_upto_region 1 with fail
  rw [HW.out, HRR.out]
  go_upto_region 4 with fail
  go_loopw [11, 12, 13] (fun ov sv iv wr => ∃ (i : Nat) (o : Bool) (x : Int), i ≤ n ∧ iv = .int .i64 i ∧ ov = .bool o ∧ sv = .int .u64 x ∧ 0 ≤ x ∧ x ≤ 17592186044416 ∧ Hid (o = decide (z.vo < tot (b.take i))) ∧ Hid (x = min z.vo (tot (b.take i))) ∧ Hid (Below W.heap.size W wr)) (fun _ _ iv _ => n - (intOf iv).toNat)
  case atStart => exact ⟨0, false, 0, Nat.zero_le _, rfl, rfl, rfl, by omega, by omega, hid (by have := HP.out.v0; rw [List.take_zero, tot_nil]; exact (decide_eq_false (by omega)).symm), hid (by have := HP.out.v0; rw [List.take_zero, tot_nil]; omega), hid (Below.refl _ _)⟩
  case round =>
    obtain ⟨i, o, x, hin, rfl, rfl, rfl, x0, x1, HO, HX, HB⟩ := hrel
    by_cases hlt : i < n
    · have hi : i < b.length := by rw [HN.out]; exact hlt
      obtain ⟨g, hg, a0, a1, a2, a3, a4, a5⟩ := (HL.out wr HB.out).cells hi
      subst hg
      have hrd : Rd z.vo sd z.pr b[i] (tqt b[i].id sd F) (lfo b[i].id now) (tot (b.take i)) o x := ⟨HP.out.sk.ik hi, HP.out.tq i hi, by rw [HP.out.lf i hi, HP.out.tq i hi], HP.out.ac i hi, tot_nonneg (s := sd) (fun y hy => HP.out.sk.ok y (List.mem_of_mem_take hy)), HP.out.v0, HO.out, HX.out⟩
      have hts := tot_take_succ hi
      obtain ⟨y, hy⟩ : ∃ y, b[i] = y := ⟨_, rfl⟩
      rw [hy] at a0 a1 a2 a3 a4 a5 hrd hts
      have CTy := hid (fun U hU => CT.out U hU y.id)
      have CLy := hid (fun U hU => CL.out U hU y.id)
      obtain ⟨nn, hnn⟩ : ∃ v, tqt y.id sd F = v := ⟨_, rfl⟩
      obtain ⟨lf, hlf⟩ : ∃ v, lfo y.id now = v := ⟨_, rfl⟩
      rw [hnn] at CTy hrd
      rw [hlf] at CLy hrd
      have HNX := hid hrd.next
      rw [← hts] at HNX
      have HRD := hid hrd
      obtain ⟨r1, r2, r3, r4, r5, r6, r7, r8⟩ := hrd
      have q0 := r1.q0
      have q1 := r1.q1
      have hty := r1.ty
      have HSY := hid r1.sd
      have n0 : 0 ≤ nn := by omega
      have n1 : nn ≤ 4294967295 := by omega
      have b2 : x + nn ≤ 17592186044416 := by
        have := HNX.out.2
        have h1 := (tot_bound (s := sd) (l := b.take (i + 1)) (fun y hy => HP.out.sk.ok y (List.mem_of_mem_take hy))).2
        have h2 : (b.take (i + 1)).length ≤ 4096 := by rw [List.length_take]; have := HP.out.sk.ln; omega
        omega
      have w1 : IntKind.u64.wrap (x + nn) = x + nn := by rw [IntKind.wrap_u64]; omega
      have w2 : IntKind.u64.wrap (nn + lf) = nn + lf := by rw [IntKind.wrap_u64]; omega
      have e1 : ((nn + lf) != y.qt) = false := by simp; omega
      have i0 : (0 : Int) ≤ (i : Int) := by omega
      have i1 : (i : Int) < (n : Int) := by omega
      obtain ⟨X, hX⟩ : ∃ X, wr.alloc (.cells #[.int .u64 y.id, .int .u32 y.mb, .int .i64 y.sd, .int .i64 y.ty, .int .i64 y.pr, .int .u64 y.qt] 36) = X := ⟨_, rfl⟩
      obtain ⟨α, hα⟩ : ∃ g, wr.heap.size = g := ⟨_, rfl⟩
      have BX := hid (show Below W.heap.size W X from by rw [← hX]; exact btr HB.out (ball _ _))
      have HA := hid (show X.heap[α]? = some (.cells #[.int .u64 y.id, .int .u32 y.mb, .int .i64 y.sd, .int .i64 y.ty, .int .i64 y.pr, .int .u64 y.qt] 36 (0, 0)) from by rw [← hX, ← hα]; exact World.alloc_heap_new _ _)
      have HXX := hid hX
      have HAA := hid hα
      have CTX := hid (CTy.out X BX.out)
      have CLX := hid (fun k => CLy.out (X.drewN k) (btr BX.out (bdrew _ _)))
      have HAC := hid r4
      have HN0 := hid r2
      have HOO := hid r7
      clear hX hα r1 r2 r3 r4 r5 r6 r7 r8 hy hts hnn hlf CT CL CTy CLy HO HX
      go_upto_region 7 with fail
      rw [HXX.out, HAA.out]
      obtain ⟨f0, f1, f2, f3, f4, f5⟩ := row6 HA.out
      go_upto_region 9 with (go_at_call 30; with_reducible refine (CTX.out).mono ?_; rintro e w9 ⟨rfl, rfl⟩)
      obtain ⟨k0, k1⟩ := HCE.out X BX.out
      clear a0 a1 a2 a3 a4 a5
      have hcase : (o = false ∧ 0 < nn ∧ acc z.pr y = true) ∨ (o = false ∧ ¬ 0 < nn) ∨ (o = true ∧ ¬ 0 < nn) := by
        have h1 := HN0.out
        have h2 := HOO.out
        by_cases hc : z.vo < tot (b.take i)
        · exact .inr (.inr ⟨by rw [h2]; exact decide_eq_true hc, by omega⟩)
        · have h3 : o = false := by rw [h2]; exact decide_eq_false hc
          by_cases hd : 0 < nn
          · exact .inl ⟨h3, hd, HAC.out (by omega)⟩
          · exact .inr (.inl ⟨h3, hd⟩)
      clear HAC HN0 HOO
      rcases hcase with ⟨ho, hpos, hac⟩ | ⟨ho, hpos⟩ | ⟨ho, hpos⟩
      · subst ho
        rcases hty with hty | hty
        · rcases hsd with hsd | hsd
          · subst hsd
            have hwv : ¬ y.pr < z.pr := by unfold acc at hac; rw [hty, HSY.out] at hac; simpa using hac
            clear hac
            have t1 : (y.ty == 1) = true := by simp [hty]
            have d1 : decide (y.pr < z.pr) = false := by simpa using hwv
            have d2 : decide (0 < nn) = true := by simpa using hpos
            clear hty HSY hpos hwv
            go_upto_region 10 with fail
            go_quiet ((go_at_call 31; exact Calls.quiet_of_same (CLX.out _)))
            go_wp2
            go_roundw
            case rel => exact ⟨i + 1, (false || decide (nn < y.qt)), x + nn, by omega, by go_num, by first | rfl | (simp), rfl, by omega, by omega, hid HNX.out.1, hid HNX.out.2, hid (btr BX.out (bdrew _ _))⟩
            case measure => simp [intOf]; omega
          · subst hsd
            have hwv : ¬ z.pr < y.pr := by unfold acc at hac; rw [hty, HSY.out] at hac; simpa using hac
            clear hac
            have t1 : (y.ty == 1) = true := by simp [hty]
            have d1 : decide (z.pr < y.pr) = false := by simpa using hwv
            have d2 : decide (0 < nn) = true := by simpa using hpos
            clear hty HSY hpos hwv
            go_upto_region 10 with fail
            go_quiet ((go_at_call 31; exact Calls.quiet_of_same (CLX.out _)))
            go_wp2
            go_roundw
            case rel => exact ⟨i + 1, (false || decide (nn < y.qt)), x + nn, by omega, by go_num, by first | rfl | (simp), rfl, by omega, by omega, hid HNX.out.1, hid HNX.out.2, hid (btr BX.out (bdrew _ _))⟩
            case measure => simp [intOf]; omega
        · clear hac
          have t1 : (y.ty == 1) = false := by simp [hty]
          have d2 : decide (0 < nn) = true := by simpa using hpos
          clear hty HSY hpos
          go_upto_region 10 with fail
          go_quiet ((go_at_call 31; exact Calls.quiet_of_same (CLX.out _)))
          go_wp2
          go_roundw
          case rel => exact ⟨i + 1, (false || decide (nn < y.qt)), x + nn, by omega, by go_num, by first | rfl | (simp), rfl, by omega, by omega, hid HNX.out.1, hid HNX.out.2, hid (btr BX.out (bdrew _ _))⟩
          case measure => simp [intOf]; omega
      · subst ho
        rcases hty with hty | hty
        · rcases hsd with hsd | hsd
          · subst hsd
            by_cases hwv : y.pr < z.pr
            · have t1 : (y.ty == 1) = true := by simp [hty]
              have d1 : decide (y.pr < z.pr) = true := by simpa using hwv
              have d2 : decide (0 < nn) = false := by simpa using hpos
              clear hty HSY hpos hwv
              go_upto_region 10 with fail
              go_quiet ((go_at_call 31; exact Calls.quiet_of_same (CLX.out _)))
              go_wp2
              go_roundw
              case rel => exact ⟨i + 1, (false || decide (nn < y.qt)), x + nn, by omega, by go_num, by first | rfl | (simp), rfl, by omega, by omega, hid HNX.out.1, hid HNX.out.2, hid (btr BX.out (bdrew _ _))⟩
              case measure => simp [intOf]; omega
            · have t1 : (y.ty == 1) = true := by simp [hty]
              have d1 : decide (y.pr < z.pr) = false := by simpa using hwv
              have d2 : decide (0 < nn) = false := by simpa using hpos
              clear hty HSY hpos hwv
              go_upto_region 10 with fail
              go_quiet ((go_at_call 31; exact Calls.quiet_of_same (CLX.out _)))
              go_wp2
              go_roundw
              case rel => exact ⟨i + 1, (false || decide (nn < y.qt)), x + nn, by omega, by go_num, by first | rfl | (simp), rfl, by omega, by omega, hid HNX.out.1, hid HNX.out.2, hid (btr BX.out (bdrew _ _))⟩
              case measure => simp [intOf]; omega
          · subst hsd
            by_cases hwv : z.pr < y.pr
            · have t1 : (y.ty == 1) = true := by simp [hty]
              have d1 : decide (z.pr < y.pr) = true := by simpa using hwv
              have d2 : decide (0 < nn) = false := by simpa using hpos
              clear hty HSY hpos hwv
              go_upto_region 10 with fail
              go_quiet ((go_at_call 31; exact Calls.quiet_of_same (CLX.out _)))
              go_wp2
              go_roundw
              case rel => exact ⟨i + 1, (false || decide (nn < y.qt)), x + nn, by omega, by go_num, by first | rfl | (simp), rfl, by omega, by omega, hid HNX.out.1, hid HNX.out.2, hid (btr BX.out (bdrew _ _))⟩
              case measure => simp [intOf]; omega
            · have t1 : (y.ty == 1) = true := by simp [hty]
              have d1 : decide (z.pr < y.pr) = false := by simpa using hwv
              have d2 : decide (0 < nn) = false := by simpa using hpos
              clear hty HSY hpos hwv
              go_upto_region 10 with fail
              go_quiet ((go_at_call 31; exact Calls.quiet_of_same (CLX.out _)))
              go_wp2
              go_roundw
              case rel => exact ⟨i + 1, (false || decide (nn < y.qt)), x + nn, by omega, by go_num, by first | rfl | (simp), rfl, by omega, by omega, hid HNX.out.1, hid HNX.out.2, hid (btr BX.out (bdrew _ _))⟩
              case measure => simp [intOf]; omega
        · skip
          have t1 : (y.ty == 1) = false := by simp [hty]
          have d2 : decide (0 < nn) = false := by simpa using hpos
          clear hty HSY hpos
          go_upto_region 10 with fail
          go_quiet ((go_at_call 31; exact Calls.quiet_of_same (CLX.out _)))
          go_wp2
          go_roundw
          case rel => exact ⟨i + 1, (false || decide (nn < y.qt)), x + nn, by omega, by go_num, by first | rfl | (simp), rfl, by omega, by omega, hid HNX.out.1, hid HNX.out.2, hid (btr BX.out (bdrew _ _))⟩
          case measure => simp [intOf]; omega
      · subst ho
        rcases hty with hty | hty
        · rcases hsd with hsd | hsd
          · subst hsd
            by_cases hwv : y.pr < z.pr
            · have t1 : (y.ty == 1) = true := by simp [hty]
              have d1 : decide (y.pr < z.pr) = true := by simpa using hwv
              have d2 : decide (0 < nn) = false := by simpa using hpos
              clear hty HSY hpos hwv
              go_upto_region 10 with fail
              go_quiet ((go_at_call 31; exact Calls.quiet_of_same (CLX.out _)))
              go_wp2
              go_roundw
              case rel => exact ⟨i + 1, (true || decide (nn < y.qt)), x + nn, by omega, by go_num, by first | rfl | (simp), rfl, by omega, by omega, hid HNX.out.1, hid HNX.out.2, hid (btr BX.out (bdrew _ _))⟩
              case measure => simp [intOf]; omega
            · have t1 : (y.ty == 1) = true := by simp [hty]
              have d1 : decide (y.pr < z.pr) = false := by simpa using hwv
              have d2 : decide (0 < nn) = false := by simpa using hpos
              clear hty HSY hpos hwv
              go_upto_region 10 with fail
              go_quiet ((go_at_call 31; exact Calls.quiet_of_same (CLX.out _)))
              go_wp2
              go_roundw
              case rel => exact ⟨i + 1, (true || decide (nn < y.qt)), x + nn, by omega, by go_num, by first | rfl | (simp), rfl, by omega, by omega, hid HNX.out.1, hid HNX.out.2, hid (btr BX.out (bdrew _ _))⟩
              case measure => simp [intOf]; omega
          · subst hsd
            by_cases hwv : z.pr < y.pr
            · have t1 : (y.ty == 1) = true := by simp [hty]
              have d1 : decide (z.pr < y.pr) = true := by simpa using hwv
              have d2 : decide (0 < nn) = false := by simpa using hpos
              clear hty HSY hpos hwv
              go_upto_region 10 with fail
              go_quiet ((go_at_call 31; exact Calls.quiet_of_same (CLX.out _)))
              go_wp2
              go_roundw
              case rel => exact ⟨i + 1, (true || decide (nn < y.qt)), x + nn, by omega, by go_num, by first | rfl | (simp), rfl, by omega, by omega, hid HNX.out.1, hid HNX.out.2, hid (btr BX.out (bdrew _ _))⟩
              case measure => simp [intOf]; omega
            · have t1 : (y.ty == 1) = true := by simp [hty]
              have d1 : decide (z.pr < y.pr) = false := by simpa using hwv
              have d2 : decide (0 < nn) = false := by simpa using hpos
              clear hty HSY hpos hwv
              go_upto_region 10 with fail
              go_quiet ((go_at_call 31; exact Calls.quiet_of_same (CLX.out _)))
              go_wp2
              go_roundw
              case rel => exact ⟨i + 1, (true || decide (nn < y.qt)), x + nn, by omega, by go_num, by first | rfl | (simp), rfl, by omega, by omega, hid HNX.out.1, hid HNX.out.2, hid (btr BX.out (bdrew _ _))⟩
              case measure => simp [intOf]; omega
        · skip
          have t1 : (y.ty == 1) = false := by simp [hty]
          have d2 : decide (0 < nn) = false := by simpa using hpos
          clear hty HSY hpos
          go_upto_region 10 with fail
          go_quiet ((go_at_call 31; exact Calls.quiet_of_same (CLX.out _)))
          go_wp2
          go_roundw
          case rel => exact ⟨i + 1, (true || decide (nn < y.qt)), x + nn, by omega, by go_num, by first | rfl | (simp), rfl, by omega, by omega, hid HNX.out.1, hid HNX.out.2, hid (btr BX.out (bdrew _ _))⟩
          case measure => simp [intOf]; omega
    · obtain rfl : i = n := by omega
      have e : b.take i = b := List.take_of_length_le (by rw [HN.out]; exact Nat.le_refl _)
      have ex : x = z.vo := by have h1 := HX.out; rw [e] at h1; have h2 := HP.out.v1; omega
      subst ex
      obtain ⟨k0, k1⟩ := HCE.out wr HB.out
      clear HX HO
      go_wp2
      go_ret
      exact ⟨rfl, btr HBW.out HB.out⟩
end Go.Proofs.Ytknikhoobhgidaa
