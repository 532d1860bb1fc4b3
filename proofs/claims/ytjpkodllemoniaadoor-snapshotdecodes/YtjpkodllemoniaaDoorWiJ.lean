/-
  The document's put.
-/
import Derived.Test.YtjpkodllemoniaaDoorWiI
namespace Go.Proofs.YtjpkodllemoniaaDoor.Wi
open Go.RowKit Go.Deep Go.Proofs.YtjpkodllemoniaaDoor.Crc
open Go.Proofs.YtjpkodllemoniaaDoor.Cp (btr ball row_on row_cell row_lt row_ne row6 Or Osz ors ors_len own_form)
set_option linter.unusedVariables false
set_option linter.unusedSimpArgs false
set_option maxHeartbeats 8000000
set_option maxRecDepth 100000
attribute [local go_sem ↓] Go.wp_at_zero Go.wp_at_succ
theorem run_oc_one (w : World) (ty : TypeId) {base g cap n : Nat} {xs : List Nat} (ho : Oc base w g cap n xs) (q c y : Nat) (hc : w.cell? ⟨q, 0, none⟩ = some (.int .u8 (y : Int))) (hn : n + 1 ≤ 1000000000) (hbase : base ≤ w.heap.size) :
    ∃ g' cap' w', (Builtin.append_ #[29, 29] ty #[.slice (some ⟨g, 0, none⟩) n cap, .slice (some ⟨q, 0, none⟩) 1 c]).run Tryd.prog w = .ok (.slice (some ⟨g', 0, none⟩) (n + 1) cap') w' ∧
      w'.ownsRow base 5 1 (.slice (some ⟨g', 0, none⟩) (n + 1) cap') (n + 1) (bv (xs ++ [y])) ∧ w.grownBy w' (some g) := by
  obtain ⟨i, hi, hz, h1, h2⟩ := info_parts info5all
  have hnews : ∀ j u, (bv [y])[j]? = some u → w.cell? ((⟨q, 0, none⟩ : Addr).add j) = some u := fun j u hu => by
    match j with
    | 0 => rw [Addr.add_lit, hc]; simpa [bv] using hu
    | j + 1 => simp [bv] at hu
  rcases ho with ho | ⟨hbg, rfl, hxl, fz, hg⟩
  · obtain ⟨v', w', hr, h3, h4, h5⟩ := run_append_own (P := Tryd.prog) w base 29 ty 5 i (.int .u8 0) 1 1 Tryd.underlying29 hi hz h1 h2 rfl (by decide) _ n (bv xs) ho ⟨q, 0, none⟩ 1 c (bv [y]) rfl hnews (bv_one _) (by unfold maxLen; omega) (by omega) hbase
    rw [← bv_append] at h3
    rcases h3.2 with ⟨h, h0⟩ | ⟨g', cap', cur, h, _⟩
    · omega
    · subst h
      exact ⟨g', cap', w', hr, h3, h4⟩
  · have hxl' : (bv xs).length = cap := by rw [bv_len]; exact hxl
    have holds : ∀ j u, (bv xs)[j]? = some u → w.cell? ((⟨g, 0, none⟩ : Addr).add j) = some u := fun j u hu => by
      rw [Addr.add_lit, Nat.zero_add]
      rw [show w.cell? ⟨g, j, none⟩ = (bv xs).toArray[j]? from by simp [World.cell?, hg]]
      simpa using hu
    have hr := run_append_grow (P := Tryd.prog) w 29 ty 5 i (.int .u8 0) Tryd.underlying29 hi hz ⟨g, 0, none⟩ cap cap (bv xs) (by rw [h1, hxl']; omega) holds ⟨q, 0, none⟩ 1 c (bv [y]) (by rw [h1]; rfl) hnews (by omega) (by omega) (growslice_fits (by omega) (by rw [h2]; omega))
    have hge := grownCap_ge w (cap + 1) cap 5
    have hcm2 : grownCap w (cap + 1) cap 5 ≤ maxLen := grownCap_le_maxLen w (cap + 1) cap 5 (by unfold maxLen; omega)
    refine ⟨_, _, _, hr, ⟨by rw [bv_append, List.length_append, hxl', bv_len]; simp, .inr ⟨w.heap.size, _, _, rfl, hbase, heap_alloc_new w.drew _, hge, hcm2, ?_, ?_⟩⟩, ⟨rfl, rfl, rfl, by simp, fun q hq _ => heap_alloc_old w.drew _ hq⟩⟩
    · rw [zc]
      simp only [Array.size_append, List.size_toArray, bv_len, List.length_replicate, List.length_cons, List.length_nil]
      omega
    · rw [zc]
      simp only [Array.toList_append, Nat.mul_one]
      rw [← bv_append, show cap + 1 = (bv (xs ++ [y])).length from by rw [bv_append, List.length_append, hxl', bv_len]; rfl]
      exact List.take_left
theorem rput_any {base g cap n k : Nat} {x : Int} {xs : List Nat} (w : World) (ho : Oc base w g cap n xs) (hn0 : xs.length = n) (hk0 : 0 < k) (hk : k ≤ 8) (hx0 : 0 ≤ x) (hx1 : x < 18446744073709551616) (hn : n + k ≤ 1000000000) (hb : base ≤ w.heap.size) :
    Calls Tryd.prog 20 #[.slice (some ⟨g, 0, none⟩) n cap, .int .u64 x, .int .i64 k] w fun e w' => ∃ g' cap', e = .returned (.slice (some ⟨g', 0, none⟩) (n + k) cap') ∧ w'.ownsRow base 5 1 (.slice (some ⟨g', 0, none⟩) (n + k) cap') (n + k) (bv (xs ++ le k x.toNat)) ∧ Kt base w w' := by
  obtain ⟨v, rfl⟩ : ∃ v : Nat, x = (v : Int) := ⟨x.toNat, by omega⟩
  rw [Int.toNat_natCast]
  have HO := hid ho
  have HN0 := hid hn0
  have HN := hid hn
  have HB := hid hb
  have HK0 := hid hk0
  have HK := hid hk
  have HV := hid (show v < 18446744073709551616 from by omega)
  clear ho hn0 hn hb hk0 hx1 hx0
  go_enter Tryd.func20, Tryd.ntmps20
  go_upto_region 2 with fail
  go_loopw [0, 7] (fun bv0 iv wr => ∃ (j g' cap' : Nat), j ≤ k ∧ iv = .int .i64 j ∧ bv0 = .slice (some ⟨g', 0, none⟩) (n + j) cap' ∧ Hid (Oc base wr g' cap' (n + j) (xs ++ le j v)) ∧ Hid (0 < j → wr.ownsRow base 5 1 (.slice (some ⟨g', 0, none⟩) (n + j) cap') (n + j) (bv (xs ++ le j v))) ∧ Hid (Kt base w wr)) (fun _ iv _ => k - (intOf iv).toNat)
  case atStart => exact ⟨0, g, cap, Nat.zero_le _, rfl, rfl, show Oc base w g cap (n + 0) (xs ++ le 0 v) from by simpa [le] using HO.out, fun h => absurd h (by decide), Kt.refl _ _⟩
  case round =>
    clear HO
    obtain ⟨j, g', cap', hjk, rfl, rfl, OC, OO, KT⟩ := hrel
    have HJ := hid hjk
    by_cases hlt : j < k
    · have HLT := hid hlt
      have i1 : (j : Int) < (k : Int) := by omega
      obtain ⟨q, hq⟩ : ∃ q, v / 2 ^ (8 * j) = q := ⟨_, rfl⟩
      obtain ⟨y, hy⟩ : ∃ y, q % 256 = y := ⟨_, rfl⟩
      have e2 : IntKind.u8.wrap (q : Int) = (y : Int) := by
        have b : IntKind.u8.wrap (q : Int) = (q : Int) % 256 := by simp [IntKind.wrap, IntKind.bits, IntKind.signed]
        rw [b]; omega
      have HLE := hid (show xs ++ le (j + 1) v = (xs ++ le j v) ++ [y] from by
        rw [le_snoc, ← List.append_assoc]
        have e : v / 256 ^ j % 256 = y := by rw [← hy, ← hq, Nat.pow_mul]
        rw [e])
      have HQ := hid hq
      have RA := hid (fun (g : Nat) (hg : g = wr.heap.size) => run_oc_one (wr.alloc (.cells #[.int .u8 (y : Int)] 5)) 29 (OC.out.on (ball _ _)) g 1 y (by subst hg; exact row_cell (World.alloc_heap_new _ _) 0) (by have := HN.out; omega) (Nat.le_trans (Nat.le_trans HB.out KT.out.1.size) (ball wr (.cells #[.int .u8 (y : Int)] 5)).size))
      obtain ⟨g2, cap2, w2, hr, ho2, hg2⟩ := RA.out wr.heap.size rfl
      have R1 := hid hr
      have FIN := hid (show Oc base w2 g2 cap2 (n + (j + 1)) (xs ++ le (j + 1) v) ∧ w2.ownsRow base 5 1 (.slice (some ⟨g2, 0, none⟩) (n + (j + 1)) cap2) (n + (j + 1)) (bv (xs ++ le (j + 1) v)) ∧ Kt base w w2 from by
        rw [HLE.out]
        refine ⟨.inl ho2, ho2, KT.out.trans ?_⟩
        have s0 := Nat.le_trans HB.out KT.out.1.size
        obtain ⟨hbg, cur, fz, hcur⟩ := OC.out.row
        have ba := ball wr (.cells #[.int .u8 (y : Int)] 5)
        refine ⟨(ba.mono s0).trans (((Below.refl _ _).mono (Nat.le_trans s0 ba.size)).grown hg2 (Nat.le_trans s0 ba.size) (fun z hz => by cases hz; exact hbg)), fun z cs e h1 h2 h3 => ?_⟩
        have r1 := row_on h1 ba
        have n1 : z ≠ g' := row_ne' h1 hcur h2
        exact (hg2.block z (row_lt r1) (fun e => n1 (Option.some.inj e))).trans r1)
      have hj8 : j < 8 := by have := HK.out; omega
      have : j = 0 ∨ j = 1 ∨ j = 2 ∨ j = 3 ∨ j = 4 ∨ j = 5 ∨ j = 6 ∨ j = 7 := by omega
      clear hq hy RA hr ho2 hg2 hlt hjk OC OO KT hk
      rcases this with rfl | rfl | rfl | rfl | rfl | rfl | rfl | rfl
      · have e1 : IntKind.u8.wrap (v : Int) = (y : Int) := by rw [← e2, ← HQ.out]; simp
        have i2 : (0 : Int) < (k : Int) := by have := HLT.out; omega
        have i3 : decide ((0 : Int) < (k : Int)) = true := decide_eq_true i2
        go_wp2_with (at_builtin; refine Go.Lib.wpList_append_run _ rfl _ _ _ _ rfl _ _ rfl rfl _ _ R1.out ?_)
        go_roundw
        case rel => exact ⟨1, g2, cap2, HLT.out, by go_num, by simp only [Nat.add_assoc], FIN.out.1, fun _ => FIN.out.2.1, FIN.out.2.2⟩
        case measure => have := HLT.out; simp [intOf]; omega
      · have e1 : (v : Int) / 256 = (q : Int) := by rw [← HQ.out]; simp
        have i2 : (1 : Int) < (k : Int) := by have := HLT.out; omega
        have i3 : decide ((1 : Int) < (k : Int)) = true := decide_eq_true i2
        go_wp2_with (at_builtin; refine Go.Lib.wpList_append_run _ rfl _ _ _ _ rfl _ _ rfl rfl _ _ R1.out ?_)
        go_roundw
        case rel => exact ⟨2, g2, cap2, HLT.out, by go_num, by simp only [Nat.add_assoc], FIN.out.1, fun _ => FIN.out.2.1, FIN.out.2.2⟩
        case measure => have := HLT.out; simp [intOf]; omega
      · have e1 : (v : Int) / 65536 = (q : Int) := by rw [← HQ.out]; simp
        have i2 : (2 : Int) < (k : Int) := by have := HLT.out; omega
        have i3 : decide ((2 : Int) < (k : Int)) = true := decide_eq_true i2
        go_wp2_with (at_builtin; refine Go.Lib.wpList_append_run _ rfl _ _ _ _ rfl _ _ rfl rfl _ _ R1.out ?_)
        go_roundw
        case rel => exact ⟨3, g2, cap2, HLT.out, by go_num, by simp only [Nat.add_assoc], FIN.out.1, fun _ => FIN.out.2.1, FIN.out.2.2⟩
        case measure => have := HLT.out; simp [intOf]; omega
      · have e1 : (v : Int) / 16777216 = (q : Int) := by rw [← HQ.out]; simp
        have i2 : (3 : Int) < (k : Int) := by have := HLT.out; omega
        have i3 : decide ((3 : Int) < (k : Int)) = true := decide_eq_true i2
        go_wp2_with (at_builtin; refine Go.Lib.wpList_append_run _ rfl _ _ _ _ rfl _ _ rfl rfl _ _ R1.out ?_)
        go_roundw
        case rel => exact ⟨4, g2, cap2, HLT.out, by go_num, by simp only [Nat.add_assoc], FIN.out.1, fun _ => FIN.out.2.1, FIN.out.2.2⟩
        case measure => have := HLT.out; simp [intOf]; omega
      · have e1 : (v : Int) / 4294967296 = (q : Int) := by rw [← HQ.out]; simp
        have i2 : (4 : Int) < (k : Int) := by have := HLT.out; omega
        have i3 : decide ((4 : Int) < (k : Int)) = true := decide_eq_true i2
        go_wp2_with (at_builtin; refine Go.Lib.wpList_append_run _ rfl _ _ _ _ rfl _ _ rfl rfl _ _ R1.out ?_)
        go_roundw
        case rel => exact ⟨5, g2, cap2, HLT.out, by go_num, by simp only [Nat.add_assoc], FIN.out.1, fun _ => FIN.out.2.1, FIN.out.2.2⟩
        case measure => have := HLT.out; simp [intOf]; omega
      · have e1 : (v : Int) / 1099511627776 = (q : Int) := by rw [← HQ.out]; simp
        have i2 : (5 : Int) < (k : Int) := by have := HLT.out; omega
        have i3 : decide ((5 : Int) < (k : Int)) = true := decide_eq_true i2
        go_wp2_with (at_builtin; refine Go.Lib.wpList_append_run _ rfl _ _ _ _ rfl _ _ rfl rfl _ _ R1.out ?_)
        go_roundw
        case rel => exact ⟨6, g2, cap2, HLT.out, by go_num, by simp only [Nat.add_assoc], FIN.out.1, fun _ => FIN.out.2.1, FIN.out.2.2⟩
        case measure => have := HLT.out; simp [intOf]; omega
      · have e1 : (v : Int) / 281474976710656 = (q : Int) := by rw [← HQ.out]; simp
        have i2 : (6 : Int) < (k : Int) := by have := HLT.out; omega
        have i3 : decide ((6 : Int) < (k : Int)) = true := decide_eq_true i2
        go_wp2_with (at_builtin; refine Go.Lib.wpList_append_run _ rfl _ _ _ _ rfl _ _ rfl rfl _ _ R1.out ?_)
        go_roundw
        case rel => exact ⟨7, g2, cap2, HLT.out, by go_num, by simp only [Nat.add_assoc], FIN.out.1, fun _ => FIN.out.2.1, FIN.out.2.2⟩
        case measure => have := HLT.out; simp [intOf]; omega
      · have e1 : (v : Int) / 72057594037927936 = (q : Int) := by rw [← HQ.out]; simp
        have i2 : (7 : Int) < (k : Int) := by have := HLT.out; omega
        have i3 : decide ((7 : Int) < (k : Int)) = true := decide_eq_true i2
        go_wp2_with (at_builtin; refine Go.Lib.wpList_append_run _ rfl _ _ _ _ rfl _ _ rfl rfl _ _ R1.out ?_)
        go_roundw
        case rel => exact ⟨8, g2, cap2, HLT.out, by go_num, by simp only [Nat.add_assoc], FIN.out.1, fun _ => FIN.out.2.1, FIN.out.2.2⟩
        case measure => have := HLT.out; simp [intOf]; omega
    · obtain rfl : j = k := by omega
      have iF : decide ((j : Int) < (j : Int)) = false := by simp
      have O2 := hid (OO.out HK0.out)
      clear hk hjk
      go_wp2
      go_ret
      exact ⟨_, _, rfl, O2.out, KT.out⟩
end Go.Proofs.YtjpkodllemoniaaDoor.Wi
