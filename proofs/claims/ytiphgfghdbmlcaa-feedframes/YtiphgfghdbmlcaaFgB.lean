/-
  Where a price stands among levels.
-/
import Derived.Test.YtiphgfghdbmlcaaFgA
namespace Go.Proofs.Ytiphgfghdbmlcaa
open Go.RowKit Go.Deep
set_option linter.unusedVariables false
set_option linter.unusedSimpArgs false
set_option maxHeartbeats 4000000
set_option maxRecDepth 100000
theorem change1_any (B : Nat) (s p : Int) (x : Lv) (w : World) (hB : w.cell? ⟨B, 2, none⟩ = some (.int .i64 s)) (hlt : B < w.heap.size) :
    Calls Try.prog 70 #[.agg #[.int .i64 x.pr, .int .u64 x.qt, .int .i64 x.ct], .int .i64 p, .pointer (some ⟨B, 0, none⟩)] w fun e w' => e = .returned (.int .i64 (od s x.pr p)) ∧ Below w.heap.size w w' := by
  have O := hid (fun (U : World) => order_any s x.pr p U)
  go_enter Try.func70, Try.ntmps70
  go_wp2_with (go_at_call 64; with_reducible refine (O.out _).mono ?_; rintro e w1 ⟨rfl, rfl⟩)
  go_ret
  exact ⟨rfl, ball _ _⟩
/-- a price's place. -/
structure Plc (s : Int) (l : List Lv) (x : Int) (i : Nat) (b : Bool) : Prop where
  le : i ≤ l.length
  lo : ∀ k (hk : k < l.length), k < i → bt s l[k].pr x = true
  hi : ∀ k (hk : k < l.length), i ≤ k → bt s l[k].pr x = false
  b : b = true ↔ ∃ h : i < l.length, l[i].pr = x
theorem bsearch_any (B : Nat) (s x : Int) (p : Option Addr) (c : Nat) (l : List Lv) (w : World) (h : Rl w p c l) (ho : Lok s l) (hB : w.cell? ⟨B, 2, none⟩ = some (.int .i64 s)) (hBs : B < w.heap.size) :
    Calls Try.prog 69 #[.slice p l.length c, .int .i64 x, .func (.func 70) #[] #[.pointer (some ⟨B, 0, none⟩)]] w fun e w' => ∃ (i : Nat) (b : Bool), e = .returned (.tuple #[.int .i64 i, .bool b]) ∧ Plc s l x i b ∧ Below w.heap.size w w' := by
  have hmax := h.max
  have hcap := h.cap
  unfold maxLen at hmax
  have hlen := ho.len
  have HL := hid h
  have HO := hid ho
  have HC := hid (fun (U : World) (hU : Below w.heap.size w U) (y : Lv) => on_b (change1_any B s x y U ((hU.cell (p := ⟨B, 2, none⟩) hBs).trans hB) (Nat.lt_of_lt_of_le hBs hU.size)) hU)
  obtain ⟨n, hn⟩ : ∃ n, l.length = n := ⟨_, rfl⟩
  have HN := hid hn
  rw [hn] at hcap hlen ⊢
  clear h ho hn hB hBs
  go_enter Try.func69, Try.ntmps69
  go_wp2
  go_loopw [9, 10] (fun iv jv wr => ∃ i j : Nat, i ≤ j ∧ j ≤ n ∧ iv = .int .i64 i ∧ jv = .int .i64 j ∧ Hid (∀ k (hk : k < l.length), k < i → bt s l[k].pr x = true) ∧ Hid (∀ k (hk : k < l.length), j ≤ k → bt s l[k].pr x = false) ∧ Hid (Below w.heap.size w wr)) (fun iv jv _ => (intOf jv).toNat - (intOf iv).toNat)
  case atStart => exact ⟨0, n, by omega, by omega, rfl, rfl, fun k _ hk => by omega, fun k hk h => by have := HN.out; omega, Below.refl _ _⟩
  case round =>
    obtain ⟨i, j, hij, hj, rfl, rfl, H1, H2, HB⟩ := hrel
    by_cases hlt : i < j
    · obtain ⟨m, hm⟩ : ∃ m, (i + j) / 2 = m := ⟨_, rfl⟩
      have hm1 : i ≤ m := by omega
      have hm2 : m < j := by omega
      have hml : m < l.length := by have := HN.out; omega
      obtain ⟨g, o, rfl, _, a0, a1, a2⟩ := (HL.out.on HB.out).cells hml
      obtain ⟨y, hy⟩ : ∃ y, l[m] = y := ⟨_, rfl⟩
      rw [hy] at a0 a1 a2
      have HY := hid hy
      have b1 : IntKind.u64.wrap ((i : Int) + (j : Int)) = (i : Int) + (j : Int) := by rw [IntKind.wrap_u64]; omega
      have b2 : ((i : Int) + (j : Int)) / 2 = (m : Int) := by omega
      have b3 : IntKind.i64.wrap (m : Int) = (m : Int) := by rw [IntKind.wrap_i64]; omega
      have m0 : (0 : Int) ≤ (m : Int) := by omega
      have m1 : (m : Int) < (n : Int) := by omega
      have C := hid (HC.out wr HB.out y)
      obtain ⟨v, hv⟩ : ∃ v, od s y.pr x = v := ⟨_, rfl⟩
      rw [hv] at C
      have HV := hid hv
      have HM := hid hm
      clear hm hy hv
      by_cases v0 : v < 0
      · go_wp2_with (go_at_call 70; with_reducible refine (C.out).mono ?_; rintro e w1 ⟨rfl, HB1⟩)
        go_roundw
        case rel => exact ⟨m + 1, j, by omega, by omega, by go_num, rfl, fun k hk hkm => by
          have hbm : bt s l[m].pr x = true := by rw [HY.out]; exact od_neg.1 (by rw [HV.out]; exact v0)
          by_cases e : k = m
          · subst e; exact hbm
          · exact bt_trans (HO.out.lt hml (by omega)) hbm, H2.out, HB1.out⟩
        case measure => simp [intOf]; omega
      · have v0' : decide (v < 0) = false := by simpa using v0
        go_wp2_with (go_at_call 70; with_reducible refine (C.out).mono ?_; rintro e w1 ⟨rfl, HB1⟩)
        go_roundw
        case rel => exact ⟨i, m, hm1, by omega, rfl, rfl, H1.out, (fun k hk hkm => by
          have hbm : bt s l[m].pr x = false := by
            rw [HY.out]
            cases hq : bt s y.pr x with
            | false => rfl
            | true => have := od_neg.2 hq; rw [HV.out] at this; omega
          by_cases e : k = m
          · subst e; exact hbm
          · cases hq : bt s l[k].pr x with
            | false => rfl
            | true => have := bt_trans (HO.out.lt hk (show m < k by omega)) hq; rw [hbm] at this; cases this), HB1.out⟩
        case measure => simp [intOf]; omega
    · obtain rfl : i = j := by omega
      by_cases hin : i < n
      · have hil : i < l.length := by have := HN.out; omega
        obtain ⟨g, o, rfl, _, a0, a1, a2⟩ := (HL.out.on HB.out).cells hil
        obtain ⟨y, hy⟩ : ∃ y, l[i] = y := ⟨_, rfl⟩
        rw [hy] at a0 a1 a2
        have HY := hid hy
        have i0 : (0 : Int) ≤ (i : Int) := by omega
        have i1 : (i : Int) < (n : Int) := by omega
        have C := hid (HC.out wr HB.out y)
        obtain ⟨v, hv⟩ : ∃ v, od s y.pr x = v := ⟨_, rfl⟩
        rw [hv] at C
        have HV := hid hv
        clear hy hv
        go_wp2_with (go_at_call 70; with_reducible refine (C.out).mono ?_; rintro e w1 ⟨rfl, HB1⟩)
        go_ret2
        refine ⟨i, (v == 0), rfl, ⟨by omega, H1.out, H2.out, ?_⟩, HB1.out⟩
        have hnb := H2.out i hil (Nat.le_refl _)
        rw [HY.out] at hnb
        constructor
        · intro hz
          refine ⟨hil, ?_⟩
          rw [HY.out]
          have hz' : v = 0 := by simpa using hz
          refine bt_tri hnb ?_
          cases hq : bt s x y.pr with
          | false => rfl
          | true => have := od_pos.2 hq; rw [HV.out] at this; omega
        · rintro ⟨_, e⟩
          rw [HY.out] at e
          have := HV.out
          rw [e] at this
          simp [od, cm3] at this
          simp [← this]
      · go_wp2
        go_ret2
        exact ⟨i, false, rfl, ⟨by have := HN.out; omega, H1.out, H2.out, ⟨fun h => by (cases h), fun ⟨h, _⟩ => by have := HN.out; omega⟩⟩, HB.out⟩
end Go.Proofs.Ytiphgfghdbmlcaa
