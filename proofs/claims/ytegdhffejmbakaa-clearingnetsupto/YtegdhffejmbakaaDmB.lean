/-
  DmB
-/
import Derived.Test.YtegdhffejmbakaaDmA
namespace Go.Proofs.Ytegdhffejmbakaa.Dm
open Go.RowKit Go.Deep BigM MonM TexM ParM
set_option linter.unusedVariables false
set_option linter.unusedSimpArgs false
set_option maxHeartbeats 8000000
set_option maxRecDepth 100000
attribute [local go_sem ↓] Go.wp_at_zero Go.wp_at_succ
def sLen : Value → Nat
  | .string b => b.size
  | _ => 0
theorem bn_one {w : World} {a : Option Addr} {n c : Nat} {y : Int} (h : Bn w (.slice a n c) y) (h0 : 0 < y) (h1 : y < 4294967296) : ∃ g o, a = some ⟨g, o, none⟩ ∧ n = 1 ∧ w.cell? ⟨g, o, none⟩ = some (.int .u32 y) := by
  obtain ⟨ds, x1, x2, x3, rfl⟩ := h
  have hl := len_le ds x2 x3 1 (by rw [show pw 1 = 4294967296 from rfl]; exact h1)
  have hp := (len_pos ds x2 x3).2 h0
  obtain ⟨a', c', e, _, hc⟩ := x1.shape
  injection e with e1 e2 e3
  obtain ⟨g, o, e4, hcc⟩ := hc hp
  match ds, hl, hp with
  | [d], _, _ =>
    refine ⟨g, o, by rw [e1, e4], e2, ?_⟩
    have := hcc.2 0 (by simp)
    rw [Nat.add_zero] at this
    rw [this]
    simp [at0, val]
theorem conv_one (w : World) (d : Int) : (convert 99 9 (.slice (some ⟨w.heap.size, 0, none⟩) 1 1)).run Try.prog (w.alloc (.cells #[.int .u8 d] 5)) = .ok (.string (strOfNums [d])) (w.alloc (.cells #[.int .u8 d] 5)) := by
  refine run_convert_bytes_arg _ 99 5 Try.underlying99 Try.underlying5 w.heap.size 0 1 1 [d] rfl ?_ 9 Try.underlying9
  intro i hi
  obtain rfl : i = 0 := by omega
  rw [row_cell (World.alloc_heap_new w _)]
  rfl
theorem decimal_any (u : Value) (x : Int) (w : World) (hu : Bn w u x) (h1 : x ≤ 170141183460469231731687303715884105727) :
    Calls Try.prog 50 #[u] w fun e w' => (∃ K, Fin10 x K ∧ e = .returned (.string (strOfNums (dg x K)))) ∧ Below w.heap.size w w' := by
  have h0 := hu.nonneg
  have HU := hid (show Bn w u (x / p10 0) from by rw [show x / p10 0 = x from by simp [p10]]; exact hu)
  have B0 := hid (Below.refl w.heap.size w)
  clear hu
  go_enter Try.func50, Try.ntmps50
  go_upto_region 2 with fail
  go_loopw [0, 3] (fun av sv wr => ∃ k : Nat, sv = .string (strOfNums (dg x k)) ∧ k ≤ 39 ∧ (k ≤ 3 ∨ x / p10 (k - 1) ≠ 0) ∧ Hid (Bn wr av (x / p10 k)) ∧ Hid (Below w.heap.size w wr)) (fun _ sv _ => 40 - sLen sv)
  case atStart => exact ⟨0, rfl, by decide, Or.inl (by decide), HU, B0⟩
  case round =>
    obtain ⟨k, rfl, hk, hk2, BN, BW⟩ := hrel
    clear HU B0
    rename_i av _
    obtain ⟨a, n, c, rfl, hm⟩ := bn_form BN.out
    have hnp := bn_len BN.out
    have v0 := BN.out.nonneg
    have hst := div_step x k
    obtain ⟨S, hS⟩ : ∃ S, strOfNums (dg x k) = S := ⟨_, rfl⟩
    have hz : S.size = k := by rw [← hS, strOfNums_size, dg_len]
    have HS := hid hS
    obtain ⟨v, hv⟩ : ∃ v, x / p10 k = v := ⟨_, rfl⟩
    have HV := hid hv
    have v1 : v ≤ x := by rw [← hv]; exact Int.ediv_le_self _ h0
    rw [hv] at BN hnp v0 hst
    rw [hS]
    have HK2 := hid hk2
    by_cases hgo : 0 < n ∨ k < 3
    · have HKS := hid (show k + 1 ≤ 39 ∧ (k + 1 ≤ 3 ∨ x / p10 (k + 1 - 1) ≠ 0) from by
        rcases hgo with h | h
        · have h9 : v ≠ 0 := by have := hnp.1 h; omega
          have := k_le x h0 h1 k (by rw [hv]; exact h9)
          exact ⟨by omega, Or.inr (by rw [Nat.add_sub_cancel, hv]; exact h9)⟩
        · exact ⟨by omega, Or.inl (by omega)⟩)
      have HC := hid (show (decide (0 < n) = true) ∨ (decide (0 < n) = false ∧ decide ((k : Int) < 3) = true) from by
        by_cases h : 0 < n
        · exact .inl (decide_eq_true h)
        · exact .inr ⟨decide_eq_false h, decide_eq_true (by omega)⟩)
      obtain ⟨W1, hW1⟩ : ∃ W, wr.alloc (.cells #[.int .u32 10] 23) = W := ⟨_, rfl⟩
      have BT := hid (show Bn W1 (.slice (some ⟨wr.heap.size, 0, none⟩) 1 1) 10 from by rw [← hW1]; exact bn_digit wr 10 (by decide) (by decide))
      have b1 : Below wr.heap.size wr W1 := by rw [← hW1]; exact ball _ _
      have BA := hid (BN.out.to b1)
      have BW1 := hid (btr BW.out b1)
      have CD := hid (divided_any W1 _ _ v 10 BA.out BT.out (by have := pw3; omega) (by decide) (by have := pw3; omega))
      have HKV := hid (show 48 + v % 10 = 48 + x / p10 k % 10 from by rw [HV.out])
      have HST := hid hst
      have hy0 : 0 ≤ v % 10 := by omega
      have hy1 : v % 10 < 10 := by omega
      obtain ⟨y, hy⟩ : ∃ y, v % 10 = y := ⟨_, rfl⟩
      obtain ⟨vd, hvd⟩ : ∃ y, v / 10 = y := ⟨_, rfl⟩
      rw [hy] at CD hy0 hy1 HKV
      rw [hvd] at CD HST
      have HZ := hid hz
      have FIN := hid (show Below w.heap.size w wr → True from fun _ => trivial)
      clear FIN hnp b1 BN BW BA BT hv hst hgo hk2 hk hS hm v0 v1 hy hvd
      have HCT := hid (show strOfNums [48 + y] ++ S = strOfNums (dg x (k + 1)) from by
        rw [← HS.out, str_app]
        show _ = strOfNums ((48 + x / p10 k % 10) :: dg x k)
        rw [← HKV.out]
        rfl)
      have hcs : (strOfNums [48 + y]).size = 1 := by rw [strOfNums_size]; rfl
      have hk9 : k ≤ 38 := by have := HKS.out.1; omega
      by_cases hy2 : y = 0
      · subst hy2
        have cv := conv_one
        have hcat := HCT.out
        rw [show (48 : Int) + 0 = 48 from rfl] at hcat hcs
        rcases HC.out with c1 | ⟨c1, c2⟩
        all_goals
          go_upto_region 5 with (go_at_call 63; with_reducible refine CD.out.mono ?_; rintro e w3 ⟨q, r, rfl, z1, z2, z3⟩; have Q3 := hid z1; have R3 := hid z2; have B3 := hid (btr BW1.out z3); clear z1 z2 z3)
          obtain ⟨a2, n2, d2, rfl, _⟩ := bn_form R3.out
          have hn2 : n2 = 0 := by have := bn_len R3.out; omega
          subst hn2
          have Q4 := hid (Q3.out.to (ball w3 (.cells #[.int .u8 48] 5)))
          have B4 := hid (btr B3.out (ball w3 (.cells #[.int .u8 48] 5)))
          have cw := cv w3 48
          clear CD BW1 Q3 B3 HC R3
          go_wp2
          go_roundw
          case rel => exact ⟨k + 1, rfl, HKS.out.1, HKS.out.2, hid (by rw [← HST.out]; exact Q4.out), B4⟩
          case measure => have := HKS.out.1; simp [sLen, strOfNums_size, dg_len]; omega
      · have cv := conv_one
        have hcat := HCT.out
        have u1 : IntKind.u8.wrap y = y := by rw [IntKind.wrap_u8]; omega
        have u2 : IntKind.u8.wrap (48 + y) = 48 + y := by rw [IntKind.wrap_u8]; omega
        rcases HC.out with c1 | ⟨c1, c2⟩
        all_goals
          go_upto_region 5 with (go_at_call 63; with_reducible refine CD.out.mono ?_; rintro e w3 ⟨q, r, rfl, z1, z2, z3⟩; have Q3 := hid z1; have R3 := hid z2; have B3 := hid (btr BW1.out z3); clear z1 z2 z3)
          obtain ⟨a2, n2, d2, rfl, _⟩ := bn_form R3.out
          obtain ⟨g2, o2, rfl, rfl, hcell⟩ := bn_one R3.out (by omega) (by omega)
          have Q4 := hid (Q3.out.to (ball w3 (.cells #[.int .u8 (48 + y)] 5)))
          have B4 := hid (btr B3.out (ball w3 (.cells #[.int .u8 (48 + y)] 5)))
          have cw := cv w3 (48 + y)
          clear CD BW1 Q3 B3 HC R3
          go_wp2
          go_roundw
          case rel => exact ⟨k + 1, rfl, HKS.out.1, HKS.out.2, hid (by rw [← HST.out]; exact Q4.out), B4⟩
          case measure => have := HKS.out.1; simp [sLen, strOfNums_size, dg_len]; omega
    · have hn0 : n = 0 := by omega
      have hk3 : ¬ k < 3 := by omega
      subst hn0
      have k3 : decide ((k : Int) < 3) = false := by rw [decide_eq_false_iff_not]; omega
      have FN := hid (show Fin10 x k from ⟨by omega, by rw [HV.out]; omega, by rcases hk2 with h | h; exact .inl (by omega); exact .inr h⟩)
      clear hgo hnp hk2 hk hk3 hst v0 v1
      go_wp2
      go_ret
      exact ⟨⟨k, FN.out, by rw [HS.out]; rfl⟩, BW.out⟩
end Go.Proofs.Ytegdhffejmbakaa.Dm
