/-
  The document's Interests: the walk.
-/
import Derived.Test.YtnmkfdndfhefiaaGreatQuB
namespace Go.Proofs.YtnmkfdndfhefiaaGreat
open Go.RowKit Go.Deep Go.Shelf
set_option linter.unusedVariables false
set_option linter.unusedSimpArgs false
set_option maxHeartbeats 8000000
set_option maxRecDepth 100000
theorem Sw.on {w0 wr U : World} {g c : Nat} {l : List It} {x : It} {k : Nat} (h : Sw w0 wr g c l x k) (hb : Below wr.heap.size wr U) : Sw w0 U g c l x k := ⟨h.li.on hb, h.up, h.ge, btr h.be hb⟩
theorem Sw.two {w0 wr : World} {g c : Nat} {l : List It} {x : It} {k : Nat} (h : Sw w0 wr g c l x (k + 1)) (hk : k + 1 ≤ l.length) :
    (wr.cell? ⟨g, (k + 1) * 6, none⟩ = some (.int .u64 x.id) ∧ wr.cell? ⟨g, (k + 1) * 6 + 1, none⟩ = some (.int .u32 x.mb) ∧ wr.cell? ⟨g, (k + 1) * 6 + 2, none⟩ = some (.int .i64 x.sd) ∧ wr.cell? ⟨g, (k + 1) * 6 + 3, none⟩ = some (.int .i64 x.ty) ∧ wr.cell? ⟨g, (k + 1) * 6 + 4, none⟩ = some (.int .i64 x.pr) ∧ wr.cell? ⟨g, (k + 1) * 6 + 5, none⟩ = some (.int .u64 x.qt)) ∧ (wr.cell? ⟨g, k * 6, none⟩ = some (.int .u64 l[k].id) ∧ wr.cell? ⟨g, k * 6 + 1, none⟩ = some (.int .u32 l[k].mb) ∧ wr.cell? ⟨g, k * 6 + 2, none⟩ = some (.int .i64 l[k].sd) ∧ wr.cell? ⟨g, k * 6 + 3, none⟩ = some (.int .i64 l[k].ty) ∧ wr.cell? ⟨g, k * 6 + 4, none⟩ = some (.int .i64 l[k].pr) ∧ wr.cell? ⟨g, k * 6 + 5, none⟩ = some (.int .u64 l[k].qt)) := by
  obtain ⟨g1, e1, a⟩ := h.li.cells (i := k + 1) (by rw [ins_len hk]; omega)
  obtain ⟨g2, e2, b⟩ := h.li.cells (i := k) (by rw [ins_len hk]; omega)
  injection e1 with e1
  injection e1 with e1
  subst e1
  injection e2 with e2
  injection e2 with e2
  subst e2
  rw [ins_at hk] at a
  rw [ins_lo hk (by omega)] at b
  exact ⟨a, b⟩
theorem rinterests_any (r m s : Int) (p : Option Addr) (c : Nat) (L : List It) (w : World) (h : Li w p c L) (hn : L.length ≤ 4096) (hk : ∀ x ∈ L, Ik x.sd x ∧ (x.sd = 1 ∨ x.sd = 2)) :
    Calls Tryz.prog 25 #[.agg #[.int .i64 r, .int .i64 m, .slice p L.length c], .int .i64 s] w fun e w' => ∃ p' c', e = .returned (.slice p' (iso s L).length c') ∧ Li w' p' c' (iso s L) ∧ Below w.heap.size w w' ∧ ∀ g, OfP p' g → w.heap.size ≤ g := by
  obtain ⟨n, hnn⟩ : ∃ n, L.length = n := ⟨_, rfl⟩
  have HN := hid hnn
  rw [hnn] at hn ⊢
  obtain ⟨R, hR⟩ : ∃ R, w.heap.size = R := ⟨_, rfl⟩
  obtain ⟨W, hW⟩ : ∃ W, w.alloc (.cells #[.int .i64 r, .int .i64 m, .slice p n c] 29) = W := ⟨_, rfl⟩
  obtain ⟨hb, hK⟩ := box_call hW hR
  have HK := hid hK
  have HBW := hid hb
  have H := hid (h.on hb)
  have HW := hid hW
  have HRR := hid hR
  have HIK := hid hk
  clear hnn h hW hR hb hK hk
  go_enter Tryz.func25, Tryz.ntmps25
  go_upto_region 1 with fail
  rw [HW.out, HRR.out]
  go_upto_region 3 with fail
  go_loopw [5, 6] (fun sv iv wr => ∃ i pt nt ct, i ≤ n ∧ nt ≤ i ∧ iv = .int .i64 (i : Nat) ∧ sv = .slice pt nt ct ∧ Hid ((iso s (L.take i)).length = nt) ∧ Hid (Li wr pt ct (iso s (L.take i))) ∧ Hid (Below W.heap.size W wr) ∧ Hid (∀ g, OfP pt g → W.heap.size ≤ g)) (fun _ iv _ => n - (intOf iv).toNat)
  case atStart => exact ⟨0, none, 0, 0, Nat.zero_le _, Nat.zero_le _, rfl, rfl, hid rfl, hid (Li.nil _), hid (Below.refl _ _), hid (fun g h => by cases h)⟩
  case round =>
    obtain ⟨i, pt, nt, ct, hin, hnt, rfl, rfl, HNT, HLI, HB, HG⟩ := hrel
    obtain ⟨k0, k1, k2⟩ := row3 (row_on HK.out HB.out)
    by_cases hlt : i < n
    · have hi : i < L.length := by rw [HN.out]; exact hlt
      obtain ⟨g0, hp, a0, a1, a2, a3, a4, a5⟩ := (H.out.on HB.out).cells hi
      subst hp
      have hst := iso_take (s := s) hi
      have hik := HIK.out L[i] (List.getElem_mem hi)
      have HSO := hid (iso_so (s := s) (L := L.take i) (fun x hx => (HIK.out x (List.mem_of_mem_take hx)).1))
      obtain ⟨l, hl⟩ : ∃ l, iso s (L.take i) = l := ⟨_, rfl⟩
      rw [hl] at HNT HLI hst HSO
      obtain ⟨z, hz⟩ : ∃ z, L[i] = z := ⟨_, rfl⟩
      rw [hz] at a0 a1 a2 a3 a4 a5 hst hik
      have i0 : (0 : Int) ≤ (i : Int) := by omega
      have i1 : (i : Int) < (n : Int) := by omega
      have HIKZ := hid hik
      clear hz hl hik
      by_cases hs : z.sd = s
      · have t1 : (z.sd != s) = false := by simpa using hs
        rw [if_pos hs] at hst
        have HST := hid hst
        have HKZ := hid (show Ik s z ∧ (s = 1 ∨ s = 2) from by rw [← hs]; exact HIKZ.out)
        clear hs hst HIKZ
        go_upto_region 8 with (at_builtin; refine wpList_take_it (by rfl) (.tmp 25) (.tmp 31) (by rfl) pt nt ct l HNT.out (by rfl) HLI.out z (by rfl) (by omega) ?_; intro pt' ct' w3 T1 T2 T3)
        obtain ⟨g, hg, _⟩ := T1.out.cells (i := nt) (by rw [List.length_append, HNT.out]; simp)
        subst hg
        have HSW := hid (show Sw W w3 g ct' l z nt from ⟨by rw [← HNT.out, ins_end]; exact T1.out, fun j hj hkj => by have := HNT.out; omega, by
          rcases T2.out g rfl with h | h
          · exact HG.out g h
          · exact Nat.le_trans HB.out.size h, HB.out.trans (T3.out.below HB.out.size (fun b hb e => by have := HG.out b e; omega))⟩)
        obtain ⟨n1, hn1⟩ : ∃ n1, nt + 1 = n1 := ⟨_, rfl⟩
        rw [hn1]
        have HN1 := hid hn1
        have n1i : n1 ≤ i + 1 := by omega
        have n1m : n1 ≤ 4096 := by omega
        have n1k : ∀ k : Nat, k ≤ nt → (k : Int) < (n1 : Int) := fun k hk => by omega
        clear hn1
        have CA := hid (fun (y : It) (hy : y ∈ l) (U : World) => rahead_any s z y U HKZ.out.1 (HSO.out.ok y hy) HKZ.out.2)
        clear T1 T2 T3 a0 a1 a2 a3 a4 a5 k0 k1 k2 HLI
        go_loopw [7] (fun kv w4 => ∃ k : Nat, k ≤ nt ∧ kv = .int .i64 k ∧ Hid (Sw W w4 g ct' l z k)) (fun kv _ => (intOf kv).toNat)
        case atStart => exact ⟨nt, Nat.le_refl _, rfl, HSW⟩
        case round =>
          obtain ⟨k, hkn, rfl, HS⟩ := hrel
          clear HSW
          cases k with
          | zero =>
            have HE := hid (show bh z l = 0 from bh_of HSO.out HKZ.out.1 (Nat.zero_le _) HS.out.up (fun h0 => by omega))
            go_upto_region 8 with fail
            go_quiet (fail)
            go_wp2
            go_roundw
            case rel =>
              refine ⟨i + 1, some ⟨g, 0, none⟩, n1, ct', by omega, n1i, by go_num, rfl, hid ?_, hid ?_, hid (btr HS.out.be (bdrew _ _)), hid (fun b hb => by rw [hb.eq]; exact HS.out.ge)⟩
              · rw [HST.out]; unfold ent; rw [HE.out, ins_len (Nat.zero_le _), HNT.out]; exact HN1.out
              · rw [HST.out]; unfold ent; rw [HE.out]; exact HS.out.li.on (bdrew _ _)
            case measure => simp [intOf]; omega
          | succ k =>
            have hkl : k + 1 ≤ l.length := by rw [HNT.out]; exact hkn
            have HTW := hid (fun U (hU : Below wr.heap.size wr U) => (HS.out.on hU).two hkl)
            obtain ⟨⟨b0, b1, b2, b3, b4, b5⟩, d0, d1, d2, d3, d4, d5⟩ := HS.out.two hkl
            have C := hid (fun U (hU : Below wr.heap.size wr U) => on_b (CA.out l[k] (List.getElem_mem _) U) hU)
            obtain ⟨y, hy⟩ : ∃ y, l[k] = y := ⟨_, rfl⟩
            rw [hy] at d0 d1 d2 d3 d4 d5 HTW C
            have HY := hid hy
            have HKL := hid hkl
            have q0 : (0 : Int) ≤ (k : Int) := by omega
            have q2 : (k : Int) < (n1 : Int) := n1k k (by omega)
            obtain ⟨k1, hk1⟩ : ∃ k1, k + 1 = k1 := ⟨_, rfl⟩
            have q3 : (0 : Int) ≤ (k1 : Int) := by omega
            have q1 : (k1 : Int) < (n1 : Int) := n1k k1 (by omega)
            have q4 : IntKind.i64.wrap ((k1 : Int) - 1) = (k : Int) := by rw [IntKind.wrap_i64]; omega
            have q5 : decide (0 < k1) = true := decide_eq_true (by omega)
            have q6 : 0 < k1 := by omega
            rw [hk1] at b0 b1 b2 b3 b4 b5 HTW ⊢
            have HK1 := hid hk1
            clear hy hk1
            go_upto_region 8 with fail
            cases hah : ahd z y with
            | true =>
              rw [hah] at C
              have HAH := hid hah
              clear hah
              go_region_held3 (fun U => (U.cell? ⟨g, k1 * 6, none⟩ = some (.int .u64 z.id) ∧ U.cell? ⟨g, k1 * 6 + 1, none⟩ = some (.int .u32 z.mb) ∧ U.cell? ⟨g, k1 * 6 + 2, none⟩ = some (.int .i64 z.sd) ∧ U.cell? ⟨g, k1 * 6 + 3, none⟩ = some (.int .i64 z.ty) ∧ U.cell? ⟨g, k1 * 6 + 4, none⟩ = some (.int .i64 z.pr) ∧ U.cell? ⟨g, k1 * 6 + 5, none⟩ = some (.int .u64 z.qt)) ∧ (U.cell? ⟨g, k * 6, none⟩ = some (.int .u64 y.id) ∧ U.cell? ⟨g, k * 6 + 1, none⟩ = some (.int .u32 y.mb) ∧ U.cell? ⟨g, k * 6 + 2, none⟩ = some (.int .i64 y.sd) ∧ U.cell? ⟨g, k * 6 + 3, none⟩ = some (.int .i64 y.ty) ∧ U.cell? ⟨g, k * 6 + 4, none⟩ = some (.int .i64 y.pr) ∧ U.cell? ⟨g, k * 6 + 5, none⟩ = some (.int .u64 y.qt))) (go_keep) (first | (go_at_call 46; with_reducible refine (C.out _ (bdrew1 wr)).mono ?_; rintro e w5 ⟨rfl, HB5⟩; obtain ⟨⟨b0, b1, b2, b3, b4, b5⟩, d0, d1, d2, d3, d4, d5⟩ := HTW.out w5 HB5.out))
              have HF5 := hid (show ∀ j, w5.frozen? ⟨g, j, none⟩ = false from fun j => by obtain ⟨cu, hcu⟩ := (HS.out.on HB5.out).li.ty (OfP.mk g); exact row_frz hcu j)
              have fa0 := HF5.out (k1 * 6)
              have fb0 := HF5.out (k * 6)
              have fa1 := HF5.out (k1 * 6 + 1)
              have fb1 := HF5.out (k * 6 + 1)
              have fa2 := HF5.out (k1 * 6 + 2)
              have fb2 := HF5.out (k * 6 + 2)
              have fa3 := HF5.out (k1 * 6 + 3)
              have fb3 := HF5.out (k * 6 + 3)
              have fa4 := HF5.out (k1 * 6 + 4)
              have fb4 := HF5.out (k * 6 + 4)
              have fa5 := HF5.out (k1 * 6 + 5)
              have fb5 := HF5.out (k * 6 + 5)
              have hne1 : ¬ k = k1 := by have := HK1.out; omega
              have hne2 : ¬ k1 = k := by have := HK1.out; omega
              go_upto_region 9 with fail
              go_region
              go_wp2
              go_roundw
              case rel =>
                have h2 := (HS.out.on HB5.out).swap HKL.out (by rw [HY.out]; exact HAH.out)
                rw [HY.out, HK1.out] at h2
                exact ⟨k, by omega, by go_num, hid (h2.on (bdrew1 _))⟩
              case measure => have := HK1.out; simp [intOf]; omega
            | false =>
              rw [hah] at C
              have HE := hid (show bh z l = k1 from bh_of HSO.out HKZ.out.1 (by rw [HNT.out, ← HK1.out]; exact hkn) (by rw [← HK1.out]; exact HS.out.up) (fun h0 => by
                have e : k1 - 1 = k := by have := HK1.out; omega
                simp only [e]
                rw [HY.out]
                exact hah))
              clear hah
              go_region_held3 (fun U => (U.cell? ⟨g, k1 * 6, none⟩ = some (.int .u64 z.id) ∧ U.cell? ⟨g, k1 * 6 + 1, none⟩ = some (.int .u32 z.mb) ∧ U.cell? ⟨g, k1 * 6 + 2, none⟩ = some (.int .i64 z.sd) ∧ U.cell? ⟨g, k1 * 6 + 3, none⟩ = some (.int .i64 z.ty) ∧ U.cell? ⟨g, k1 * 6 + 4, none⟩ = some (.int .i64 z.pr) ∧ U.cell? ⟨g, k1 * 6 + 5, none⟩ = some (.int .u64 z.qt)) ∧ (U.cell? ⟨g, k * 6, none⟩ = some (.int .u64 y.id) ∧ U.cell? ⟨g, k * 6 + 1, none⟩ = some (.int .u32 y.mb) ∧ U.cell? ⟨g, k * 6 + 2, none⟩ = some (.int .i64 y.sd) ∧ U.cell? ⟨g, k * 6 + 3, none⟩ = some (.int .i64 y.ty) ∧ U.cell? ⟨g, k * 6 + 4, none⟩ = some (.int .i64 y.pr) ∧ U.cell? ⟨g, k * 6 + 5, none⟩ = some (.int .u64 y.qt))) (go_keep) (first | (go_at_call 46; with_reducible refine (C.out _ (bdrew1 wr)).mono ?_; rintro e w5 ⟨rfl, HB5⟩; obtain ⟨⟨b0, b1, b2, b3, b4, b5⟩, d0, d1, d2, d3, d4, d5⟩ := HTW.out w5 HB5.out))
              go_wp2
              go_roundw
              case rel =>
                refine ⟨i + 1, some ⟨g, 0, none⟩, n1, ct', by omega, n1i, by go_num, rfl, hid ?_, hid ?_, hid (btr HS.out.be HB5.out), hid (fun b hb => by rw [hb.eq]; exact HS.out.ge)⟩
                · rw [HST.out]; unfold ent; rw [HE.out, ins_len (by rw [HNT.out, ← HK1.out]; exact hkn), HNT.out]; exact HN1.out
                · rw [HST.out]; unfold ent; rw [HE.out]; have h1 := HS.out.li.on HB5.out; rw [HK1.out] at h1; exact h1
              case measure => simp [intOf]; omega
      · have t1 : (z.sd != s) = true := by simpa using hs
        rw [if_neg hs] at hst
        have HST := hid hst
        clear hs hst HIKZ
        go_wp2
        go_roundw
        case rel => exact ⟨i + 1, pt, nt, ct, by omega, by omega, by go_num, rfl, hid (by rw [HST.out]; exact HNT.out), hid (by rw [HST.out]; exact HLI.out), HB, HG⟩
        case measure => simp [intOf]; omega
    · obtain rfl : i = n := by omega
      have e : L.take i = L := List.take_of_length_le (by rw [HN.out]; exact Nat.le_refl _)
      rw [e] at HNT HLI
      go_wp2
      go_ret
      exact ⟨pt, ct, by rw [HNT.out]; rfl, HLI.out, btr HBW.out HB.out, fun g hg => Nat.le_trans HBW.out.size (HG.out g hg)⟩
end Go.Proofs.YtnmkfdndfhefiaaGreat
