/-
  Compact of numbers of which two neighbours are the same: it is shorter.
-/
import Derived.Test.YtjpkodllemoniaaDoorSsA
namespace Go.Proofs.YtjpkodllemoniaaDoor.Sr
open Go.RowKit Go.Deep
set_option linter.unusedVariables false
set_option linter.unusedSimpArgs false
set_option maxHeartbeats 8000000
set_option maxRecDepth 100000
theorem zero_u64 (w : World) : (zeroValue 25).run Tryd.prog w = .ok (.int .u64 0) w := by kernel_rfl
theorem setN_any (g : Nat) : ∀ (m o : Nat) (w : World) (l : List Int) (n : Nat), Uz w g n l → o + m ≤ n → ∃ l', Uz (w.setCells g o (List.replicate m (.int .u64 0))) g n l' ∧ Kp (fun b => b = g) w (w.setCells g o (List.replicate m (.int .u64 0)))
  | 0, o, w, l, n, h, _ => ⟨l, h, Kp.refl _ w⟩
  | m + 1, o, w, l, n, h, hm => by
    obtain ⟨l', h1, h2⟩ := setN_any g m (o + 1) _ _ n (h.set (i := o) (by omega) 0) (by omega)
    exact ⟨l', h1, (Kp.set w g o _).trans h2 (fun _ _ e => e)⟩
theorem run_clearN {w : World} {g n : Nat} {l : List Int} (h : Uz w g n l) {k m c : Nat} (hk : k + (m + 1) ≤ n) (ty : TypeId) : (Builtin.clear_ #[83] ty #[.slice (some ⟨g, k, none⟩) (m + 1 : Nat) c]).run Tryd.prog w = .ok (.tuple #[]) (w.setCells g k (List.replicate (m + 1) (.int .u64 0))) := by
  have hst := run_storeCells_cells (P := Tryd.prog) g k (List.replicate (m + 1) (.int .u64 0)) 0 w (fun j hj => by
    simp at hj
    rw [h.cell (by omega)]
    rfl) (fun j hj => h.frz _) (by simp [Value.oneCell'])
  have hz : (Builtin.zeroCells #[.int .u64 0] (m + 1)).toList = List.replicate (m + 1) (.int .u64 0) := by
    unfold Builtin.zeroCells
    simp
    apply List.ext_getElem <;> simp [Nat.mod_one]
  simp only [Nat.add_zero] at hst
  simp only [Builtin.clear_]
  simp [run_underlying Tryd.underlying83, zero_u64, Value.cells, hz, hst]
theorem compact_dup (g cap n : Nat) (l : List Int) (w : World) (h : Uz w g n l) (hcap : n ≤ cap) (hd : ∃ i, i + 1 < n ∧ gd l (i + 1) = gd l i) (hn : n ≤ 1152921504606846976) :
    Calls Tryd.prog 52 #[.slice (some ⟨g, 0, none⟩) n cap] w fun e w' => ∃ k c : Nat, e = .returned (.slice (some ⟨g, 0, none⟩) k c) ∧ k < n ∧ Kp (fun b => b = g) w w' := by
  have HU := hid h
  obtain ⟨p, hp, ep⟩ := hd
  have HP := hid ep
  clear h ep
  have i2 : ¬ (n : Int) < 2 := by omega
  have d2 : decide ((n : Int) < 2) = false := decide_eq_false i2
  go_enter Tryd.func52, Tryd.ntmps52
  go_upto_region 4 with fail
  go_loopw [3] (fun kv wr => ∃ k : Nat, kv = .int .i64 k ∧ 1 ≤ k ∧ k ≤ p + 1 ∧ Hid (Below w.heap.size w wr)) (fun kv _ => n + 1 - (intOf kv).toNat)
  case atStart => exact ⟨1, rfl, by omega, by omega, hid (Below.refl _ _)⟩
  case round =>
    obtain ⟨k, rfl, k1, kn, HB⟩ := hrel
    have ik : (k : Int) < (n : Int) := by omega
    have k0' : (0 : Int) ≤ (k : Int) := by omega
    obtain ⟨j, hj⟩ : ∃ j, k = j + 1 := ⟨k - 1, by omega⟩
    have wj : IntKind.i64.wrap ((k : Int) - 1) = (j : Int) := by rw [IntKind.wrap_i64]; omega
    have wk : IntKind.i64.wrap ((k : Int) + 1) = ((k + 1 : Nat) : Int) := by rw [IntKind.wrap_i64]; omega
    have j0' : (0 : Int) ≤ (j : Int) := by omega
    have j2 : (j : Int) < (n : Int) := by omega
    obtain ⟨cur, hc, _⟩ := HU.out.row
    have u1 := HU.out.same (HB.out.block g (row_lt hc))
    have HPE := hid (show k = p + 1 → gd l k = gd l j from fun e => by
      have e2 : j = p := by omega
      rw [e, e2]
      exact HP.out)
    obtain ⟨y, hy⟩ : ∃ y, gd l k = y := ⟨_, rfl⟩
    obtain ⟨z, hz⟩ : ∃ y, gd l j = y := ⟨_, rfl⟩
    rw [hy, hz] at HPE
    have cy : wr.cell? ⟨g, k, none⟩ = some (.int .u64 y) := by rw [← hy]; exact u1.cell (by omega)
    have cz : wr.cell? ⟨g, j, none⟩ = some (.int .u64 z) := by rw [← hz]; exact u1.cell (by omega)
    have U1 := hid u1
    have HKJ := hid hj
    clear hj hc u1 hy hz
    go_upto_region 6 with fail
    go_quiet (fail)
    have HB2 := hid (show Below w.heap.size w (wr.drewN nq) from HB.out.trans ⟨rfl, rfl, rfl, Nat.le_refl _, fun _ _ => rfl⟩)
    have U2 := hid (U1.out.same (w' := wr.drewN nq) rfl)
    cases eyz : (y == z) with
    | false =>
      have hk2 : k + 1 ≤ p + 1 := by
        rcases Nat.lt_or_ge k (p + 1) with e | e
        · omega
        · have := HPE.out (by omega); rw [this] at eyz; simp at eyz
      clear HPE
      go_wp2
      go_roundw
      case rel => exact ⟨k + 1, by go_num, by omega, by omega, HB2⟩
      case measure => first | (simp [intOf]; done) | (simp [intOf]; omega)
    | true =>
      clear HPE cy cz
      obtain ⟨K, hK⟩ : ∃ K, k = K := ⟨_, rfl⟩
      obtain ⟨M, hM⟩ : ∃ M, n - k = M := ⟨_, rfl⟩
      obtain ⟨C, hC⟩ : ∃ C, cap - k = C := ⟨_, rfl⟩
      have hKM : K + M = n := by omega
      have hK1 : 1 ≤ K ∧ 1 ≤ M := by omega
      have HS0 := hid (show Sp w (wr.drewN nq) g n (fun _ => True) from ⟨l, trivial, U2.out, Kp.of _ HB2.out⟩)
      have hks : k ≤ n := by omega
      have hkc : k ≤ cap := by omega
      go_upto_region 9 with fail
      (try rw [hM])
      (try rw [hC])
      (try rw [hK])
      clear hM hC ik k0' wj wk j0' j2 HB HB2 U1 U2 HKJ eyz hks hkc
      go_loopw [3, 5] (fun kv iv wr => ∃ k i : Nat, kv = .int .i64 k ∧ iv = .int .i64 i ∧ 1 ≤ i ∧ i ≤ M ∧ 1 ≤ k ∧ k + 1 ≤ K + i ∧ Hid (Sp w wr g n (fun _ => True))) (fun _ iv _ => M + 1 - (intOf iv).toNat)
      case atStart => exact ⟨K, 1, rfl, rfl, by omega, by omega, by omega, by omega, HS0⟩
      case round =>
        clear HS0
        obtain ⟨k, i, rfl, rfl, i1, iM, k1, ki, HS⟩ := hrel
        by_cases him : i < M
        · have iim : (i : Int) < (M : Int) := by omega
          have i0' : (0 : Int) ≤ (i : Int) := by omega
          obtain ⟨j, hj⟩ : ∃ j, i = j + 1 := ⟨i - 1, by omega⟩
          have wj : IntKind.i64.wrap ((i : Int) - 1) = (j : Int) := by rw [IntKind.wrap_i64]; omega
          have wi : IntKind.i64.wrap ((i : Int) + 1) = ((i + 1 : Nat) : Int) := by rw [IntKind.wrap_i64]; omega
          have wk : IntKind.i64.wrap ((k : Int) + 1) = ((k + 1 : Nat) : Int) := by rw [IntKind.wrap_i64]; omega
          have j0' : (0 : Int) ≤ (j : Int) := by omega
          have j2 : (j : Int) < (M : Int) := by omega
          have k0' : (0 : Int) ≤ (k : Int) := by omega
          have kn' : (k : Int) < (n : Int) := by omega
          obtain ⟨l, -, u1, q1⟩ := HS.out
          obtain ⟨y, hy⟩ : ∃ y, gd l (K + i) = y := ⟨_, rfl⟩
          obtain ⟨z, hz⟩ : ∃ y, gd l (K + j) = y := ⟨_, rfl⟩
          have cy : wr.cell? ⟨g, K + i, none⟩ = some (.int .u64 y) := by rw [← hy]; exact u1.cell (by omega)
          have cz : wr.cell? ⟨g, K + j, none⟩ = some (.int .u64 z) := by rw [← hz]; exact u1.cell (by omega)
          have U1 := hid u1
          have Q1 := hid q1
          have HJ := hid hj
          clear hj u1 q1 hy hz
          go_upto_region 11 with fail
          go_quiet (fail)
          have U2 := hid (U1.out.same (w' := wr.drewN nq) rfl)
          have Q2 := hid (Q1.out.trans (Kp.drewN _ wr nq) (fun _ _ e => e))
          obtain ⟨V, hV⟩ : ∃ U, wr.drewN nq = U := ⟨_, rfl⟩
          rw [hV] at U2 Q2 ⊢
          clear hV cy cz
          cases eyz : (y == z) with
          | true =>
            have HS2 := hid (show Sp w V g n (fun _ => True) from ⟨l, trivial, U2.out, Q2.out⟩)
            go_wp2
            go_roundw
            case rel => exact ⟨k, i + 1, by go_num, by go_num, by omega, by omega, by omega, by omega, HS2⟩
            case measure => first | (simp [intOf]; done) | (simp [intOf]; omega)
          | false =>
            obtain ⟨y2, hy2⟩ : ∃ y, gd l (K + i) = y := ⟨_, rfl⟩
            have cy : V.cell? ⟨g, K + i, none⟩ = some (.int .u64 y2) := by rw [← hy2]; exact U2.out.cell (by omega)
            obtain ⟨x2, hx2⟩ : ∃ y, gd l k = y := ⟨_, rfl⟩
            have cx : V.cell? ⟨g, k, none⟩ = some (.int .u64 x2) := by rw [← hx2]; exact U2.out.cell (by omega)
            have fx := U2.out.frz k
            have HS2 := hid (show Sp w (V.setCell ⟨g, k, none⟩ (.int .u64 y2)) g n (fun _ => True) from ⟨_, trivial, U2.out.set (i := k) (by omega) y2, Q2.out.trans (Kp.set V g k _) (fun _ _ e => e)⟩)
            clear hy2 hx2
            go_wp2
            go_roundw
            case rel => exact ⟨k + 1, i + 1, by go_num, by go_num, by omega, by omega, by omega, by omega, HS2⟩
            case measure => first | (simp [intOf]; done) | (simp [intOf]; omega)
        · have iim : ¬ (i : Int) < (M : Int) := by omega
          have dim : decide ((i : Int) < (M : Int)) = false := decide_eq_false iim
          obtain ⟨m, hm⟩ : ∃ m, n - k = m + 1 := ⟨n - k - 1, by omega⟩
          obtain ⟨l, -, u1, q1⟩ := HS.out
          have hcl := run_clearN u1 (k := k) (m := m) (c := cap - k) (by omega)
          obtain ⟨l', z1, z2⟩ := setN_any g (m + 1) k wr l n u1 (by omega)
          obtain ⟨V, hV⟩ : ∃ U, wr.setCells g k (List.replicate (m + 1) (.int .u64 0)) = U := ⟨_, rfl⟩
          rw [hV] at hcl z1 z2
          have HF := hid (show Kp (fun b => b = g) w V from q1.trans z2 (fun _ _ e => e))
          have k0' : (0 : Int) ≤ (k : Int) := by omega
          have hks : k ≤ n := by omega
          have hkc : k ≤ cap := by omega
          clear u1 q1 z1 z2 hV
          go_wp2
          go_ret
          exact ⟨k, ⟨cap, by rfl⟩, by omega, HF.out⟩
end Go.Proofs.YtjpkodllemoniaaDoor.Sr
