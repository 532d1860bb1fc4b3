/-
  What would be traded of interests at a price.
-/
import Derived.Test.YtknikhoobhgidaaMsP
namespace Go.Proofs.Ytknikhoobhgidaa
open Go.RowKit Go.Deep Go.Shelf
set_option linter.unusedVariables false
set_option linter.unusedSimpArgs false
set_option maxHeartbeats 4000000
set_option maxRecDepth 100000
theorem fil_step {f : It → Bool} {l : List It} {i : Nat} (hi : i < l.length) : tot ((l.take (i + 1)).filter f) = tot ((l.take i).filter f) + (if f l[i] = true then l[i].qt else 0) := by
  rw [List.take_succ_eq_append_getElem hi, List.filter_append, tot_app]
  congr 1
  by_cases h : f l[i] = true
  · rw [if_pos h, List.filter_cons, if_pos h, List.filter_nil, tot_cons, tot_nil]; omega
  · rw [if_neg h, List.filter_cons, if_neg h, List.filter_nil, tot_nil]
theorem volume_any (p : Option Addr) (c : Nat) (l : List It) (pr : Int) (w : World) (h : Li w p c l) (hn : l.length ≤ 4096) (hk : ∀ x ∈ l, Ik 1 x ∨ Ik 2 x) :
    Calls Try.prog 12 #[.slice p l.length c, .int .i64 pr] w fun e w' => e = .returned (.int .u64 (vol pr l)) ∧ w = w' := by
  obtain ⟨n, hnn⟩ : ∃ n, l.length = n := ⟨_, rfl⟩
  have HN := hid hnn
  have H := hid h
  rw [hnn] at hn ⊢
  clear hnn h
  go_enter Try.func12, Try.ntmps12
  go_wp2
  go_loopw [5, 6, 7] (fun bv sv iv wr => ∃ (i : Nat) (x y : Int), i ≤ n ∧ iv = .int .i64 i ∧ bv = .int .u64 x ∧ sv = .int .u64 y ∧ 0 ≤ x ∧ x ≤ 4294967295 * i ∧ 0 ≤ y ∧ y ≤ 4294967295 * i ∧ Hid (x = tot ((l.take i).filter (vb pr))) ∧ Hid (y = tot ((l.take i).filter (vs pr))) ∧ Hid (w = wr)) (fun _ _ iv _ => n - (intOf iv).toNat)
  case atStart => exact ⟨0, 0, 0, Nat.zero_le _, rfl, rfl, rfl, by omega, by omega, by omega, by omega, hid rfl, hid rfl, hid rfl⟩
  case round =>
    obtain ⟨i, x, y, hin, rfl, rfl, rfl, x0, x1, y0, y1, HX, HY, HW⟩ := hrel
    have hw := HW.out
    subst hw
    by_cases hlt : i < n
    · have hi : i < l.length := by rw [HN.out]; exact hlt
      obtain ⟨g, hp, a0, a1, a2, a3, a4, a5⟩ := H.out.cells hi
      subst hp
      have hik := hk l[i] (List.getElem_mem hi)
      have f1 := fil_step (f := vb pr) hi
      have f2 := fil_step (f := vs pr) hi
      rw [← HX.out] at f1
      rw [← HY.out] at f2
      obtain ⟨z, hz⟩ : ∃ z, l[i] = z := ⟨_, rfl⟩
      rw [hz] at a0 a1 a2 a3 a4 a5 hik f1 f2
      have i0 : (0 : Int) ≤ (i : Int) := by omega
      have i1 : (i : Int) < (n : Int) := by omega
      have q01 : 1 ≤ z.qt ∧ z.qt ≤ 4294967295 := by rcases hik with h | h; exact ⟨h.q0, h.q1⟩; exact ⟨h.q0, h.q1⟩
      have w1 : IntKind.u64.wrap (x + z.qt) = x + z.qt := by rw [IntKind.wrap_u64]; omega
      have w2 : IntKind.u64.wrap (y + z.qt) = y + z.qt := by rw [IntKind.wrap_u64]; omega
      have hty : z.ty = 1 ∨ z.ty = 2 := by rcases hik with h | h; exact h.ty; exact h.ty
      have hsd : z.sd = 1 ∨ z.sd = 2 := by rcases hik with h | h; exact .inl h.sd; exact .inr h.sd
      clear hz hik HX HY
      rcases hsd with hsd | hsd
      · have t1 : (z.sd == 1) = true := by simp [hsd]
        have t2 : (z.sd == 2) = false := by simp [hsd]
        have e2 : vs pr z = false := by unfold vs; rw [t2]; rfl
        rw [e2, if_neg (by decide)] at f2
        rcases hty with hty | hty
        · have t3 : (z.ty == 2) = false := by simp [hty]
          by_cases hp : pr ≤ z.pr
          · have e1 : vb pr z = true := by unfold vb acc; rw [t1, hsd, hty]; simpa using hp
            rw [e1, if_pos rfl] at f1
            have F1 := hid f1
            have F2 := hid f2
            clear f1 f2 hsd hty e1 e2
            go_wp2
            go_roundw
            case rel => exact ⟨i + 1, x + z.qt, y, by omega, by go_num, rfl, rfl, by omega, by omega, by omega, by omega, hid (by have := F1.out; omega), hid (by have := F2.out; omega), hid (by first | rfl | trivial)⟩
            case measure => simp [intOf]; omega
          · have e1 : vb pr z = false := by unfold vb acc; rw [t1, hsd, hty]; simpa using hp
            rw [e1, if_neg (by decide)] at f1
            have F1 := hid f1
            have F2 := hid f2
            clear f1 f2 hsd hty e1 e2
            go_wp2
            go_roundw
            case rel => exact ⟨i + 1, x, y, by omega, by go_num, rfl, rfl, by omega, by omega, by omega, by omega, hid (by have := F1.out; omega), hid (by have := F2.out; omega), hid (by first | rfl | trivial)⟩
            case measure => simp [intOf]; omega
        · have t3 : (z.ty == 2) = true := by simp [hty]
          have e1 : vb pr z = true := by unfold vb acc; rw [t1, hsd, hty]; rfl
          rw [e1, if_pos rfl] at f1
          have F1 := hid f1
          have F2 := hid f2
          clear f1 f2 hsd hty e1 e2
          go_wp2
          go_roundw
          case rel => exact ⟨i + 1, x + z.qt, y, by omega, by go_num, rfl, rfl, by omega, by omega, by omega, by omega, hid (by have := F1.out; omega), hid (by have := F2.out; omega), hid (by first | rfl | trivial)⟩
          case measure => simp [intOf]; omega
      · have t1 : (z.sd == 1) = false := by simp [hsd]
        have t2 : (z.sd == 2) = true := by simp [hsd]
        have e1 : vb pr z = false := by unfold vb; rw [t1]; rfl
        rw [e1, if_neg (by decide)] at f1
        rcases hty with hty | hty
        · have t3 : (z.ty == 2) = false := by simp [hty]
          by_cases hp : z.pr ≤ pr
          · have e2 : vs pr z = true := by unfold vs acc; rw [t2, hsd, hty]; simpa using hp
            rw [e2, if_pos rfl] at f2
            have F1 := hid f1
            have F2 := hid f2
            clear f1 f2 hsd hty e1 e2
            go_wp2
            go_roundw
            case rel => exact ⟨i + 1, x, y + z.qt, by omega, by go_num, rfl, rfl, by omega, by omega, by omega, by omega, hid (by have := F1.out; omega), hid (by have := F2.out; omega), hid (by first | rfl | trivial)⟩
            case measure => simp [intOf]; omega
          · have e2 : vs pr z = false := by unfold vs acc; rw [t2, hsd, hty]; simpa using hp
            rw [e2, if_neg (by decide)] at f2
            have F1 := hid f1
            have F2 := hid f2
            clear f1 f2 hsd hty e1 e2
            go_wp2
            go_roundw
            case rel => exact ⟨i + 1, x, y, by omega, by go_num, rfl, rfl, by omega, by omega, by omega, by omega, hid (by have := F1.out; omega), hid (by have := F2.out; omega), hid (by first | rfl | trivial)⟩
            case measure => simp [intOf]; omega
        · have t3 : (z.ty == 2) = true := by simp [hty]
          have e2 : vs pr z = true := by unfold vs acc; rw [t2, hsd, hty]; rfl
          rw [e2, if_pos rfl] at f2
          have F1 := hid f1
          have F2 := hid f2
          clear f1 f2 hsd hty e1 e2
          go_wp2
          go_roundw
          case rel => exact ⟨i + 1, x, y + z.qt, by omega, by go_num, rfl, rfl, by omega, by omega, by omega, by omega, hid (by have := F1.out; omega), hid (by have := F2.out; omega), hid (by first | rfl | trivial)⟩
          case measure => simp [intOf]; omega
    · obtain rfl : i = n := by omega
      have e : l.take i = l := List.take_of_length_le (by rw [HN.out]; exact Nat.le_refl _)
      rw [e] at HX HY
      by_cases hc : x < y
      · go_wp2
        go_ret
        exact ⟨by unfold vol; rw [← HX.out, ← HY.out, Int.min_eq_left (by omega)]; rfl, rfl⟩
      · go_wp2
        go_ret
        exact ⟨by unfold vol; rw [← HX.out, ← HY.out, Int.min_eq_right (by omega)]; rfl, rfl⟩
end Go.Proofs.Ytknikhoobhgidaa
