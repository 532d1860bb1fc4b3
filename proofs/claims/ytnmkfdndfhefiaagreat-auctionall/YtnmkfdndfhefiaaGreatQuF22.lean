/-
  The document's Enter, where it takes.
-/
import Derived.Test.YtnmkfdndfhefiaaGreatQuF
namespace Go.Proofs.YtnmkfdndfhefiaaGreat
open Go.RowKit Go.Deep Go.Shelf
set_option linter.unusedVariables false
set_option linter.unusedSimpArgs false
set_option maxHeartbeats 16000000
set_option maxRecDepth 100000
theorem re_ok22 (r m : Int) (p : Option Addr) (c : Nat) (L : List It) (x : It) (w : World) (h : Li w p c L) (hn : L.length ≤ 4096) (s1 : (x.sd != 1) = true) (s2 : (x.sd != 2) = false) (y1 : (x.ty != 1) = true) (y2 : (x.ty != 2) = false) (y3 : (x.ty == 2) = true) (p0 : (x.pr != 0) = false) (hp : isP x.pr = true) (d1 : decide (x.qt < 1) = false) (d2 : decide (4294967295 < x.qt) = false) (z1 : (x.id == 0) = false) (hf : ¬ 0 ≤ fni x.id L) (hm : ¬ m ≤ (L.length : Int)) :
    Calls Tryz.prog 10 #[.agg #[.int .i64 r, .int .i64 m, .slice p L.length c], .agg #[.int .u64 x.id, .int .u32 x.mb, .int .i64 x.sd, .int .i64 x.ty, .int .i64 x.pr, .int .u64 x.qt]] w fun e w' => ∃ p' c', e = .returned (.tuple #[.agg #[.int .i64 r, .int .i64 m, .slice p' (L.length + 1) c'], .int .i64 0]) ∧ Li w' p' c' (L ++ [x]) ∧ Below w.heap.size w w' ∧ ∀ g, OfP p' g → w.heap.size ≤ g := by
  have CT := hid (fun U => tick_any x.pr U)
  have CP := hid (fun (U : World) (hU : Below w.heap.size w U) => rplace_any r m x.id p c L U (h.on hU) hn)
  obtain ⟨n, hnn⟩ : ∃ n, L.length = n := ⟨_, rfl⟩
  rw [hnn] at hn CP hm ⊢
  obtain ⟨v, hv⟩ : ∃ v, fni x.id L = v := ⟨_, rfl⟩
  rw [hv] at CP hf
  clear hv
  rw [hp] at CT
  clear hp
  have d3 : decide (0 ≤ v) = false := decide_eq_false hf
  have d4 : decide (m ≤ (n : Int)) = false := decide_eq_false hm
  obtain ⟨R, hR⟩ : ∃ R, w.heap.size = R := ⟨_, rfl⟩
  obtain ⟨W, hW⟩ : ∃ W, ((w.alloc (.cells #[.int .i64 r, .int .i64 m, .slice p n c] 29)).alloc (.cells #[.int .u64 x.id, .int .u32 x.mb, .int .i64 x.sd, .int .i64 x.ty, .int .i64 x.pr, .int .u64 x.qt] 35)).alloc (.cells #[.int .i64 0, .int .i64 0, .slice none 0 0] 29) = W := ⟨_, rfl⟩
  have HE := hid (Et0.mk' hW hR)
  have HW := hid hW
  have HRR := hid hR
  have HL := hid (fun (U : World) (hU : Below w.heap.size w U) => h.on hU)
  have HNN := hid hnn
  obtain ⟨k0, k1, k2⟩ := row3 HE.out.a
  obtain ⟨i0, i1, i2, i3, i4, i5⟩ := row6 HE.out.b
  have CPW := hid (CP.out W HE.out.be)
  clear hW hR h hnn CP
  go_enter Tryz.func10, Tryz.ntmps10
  go_upto_region 1 with fail
  rw [HW.out, HRR.out]
  go_upto_region 13 with (first | (go_at_call 27; with_reducible refine (CT.out _).mono ?_; rintro e u1 ⟨rfl, rfl⟩) | (go_at_call 28; with_reducible refine (CPW.out).mono ?_; rintro e v1 ⟨rfl, hb⟩; have V1 := hid hb; obtain ⟨m0, m1, m2⟩ := row3 (HE.out.on hb).a; clear hb))
  have HEU := hid (HE.out.on V1.out)
  obtain ⟨m0, m1, m2⟩ := row3 HEU.out.a
  obtain ⟨j0, j1, j2, j3, j4, j5⟩ := row6 HEU.out.b
  have sz : R + 2 < v1.heap.size := row_lt HEU.out.z
  have sR : R < v1.heap.size := by omega
  have sR1 : R + 1 < v1.heap.size := by omega
  have fz := row_frz HEU.out.a 2
  have B1 := hid (show Below v1.heap.size v1 ((v1.alloc (.cells #[] 35)).drew) from btr (ball _ _) (bdrew1 _))
  have B2 := hid (show Below v1.heap.size v1 (((v1.alloc (.cells #[] 35)).alloc (.cells #[.int .u64 x.id, .int .u32 x.mb, .int .i64 x.sd, .int .i64 x.ty, .int .i64 x.pr, .int .u64 x.qt] 35)).drew) from btr (btr (ball _ _) (ball _ _)) (bdrew1 _))
  have B3 := hid (show Below v1.heap.size v1 (((v1.alloc (.cells #[.int .u64 x.id, .int .u32 x.mb, .int .i64 x.sd, .int .i64 x.ty, .int .i64 x.pr, .int .u64 x.qt] 35)).alloc (.cells #[] 35)).drew) from btr (btr (ball _ _) (ball _ _)) (bdrew1 _))
  have O1 := hid (show ((v1.alloc (.cells #[] 35)).drew).ownsRow v1.heap.size 35 6 (.slice (some ⟨v1.heap.size, 0, none⟩) 0 0) 0 (its []) from own_on (own_none v1) (bdrew1 _))
  have O2 := hid (show (((v1.alloc (.cells #[] 35)).alloc (.cells #[.int .u64 x.id, .int .u32 x.mb, .int .i64 x.sd, .int .i64 x.ty, .int .i64 x.pr, .int .u64 x.qt] 35)).drew).ownsRow v1.heap.size 35 6 (.slice (some ⟨v1.heap.size, 0, none⟩) 0 0) 0 (its []) from own_on (own_none v1) (btr (ball _ _) (bdrew1 _)))
  have O3 := hid (show (((v1.alloc (.cells #[.int .u64 x.id, .int .u32 x.mb, .int .i64 x.sd, .int .i64 x.ty, .int .i64 x.pr, .int .u64 x.qt] 35)).alloc (.cells #[] 35)).drew).ownsRow v1.heap.size 35 6 (.slice (some ⟨v1.heap.size + 1, 0, none⟩) 0 0) 0 (its []) from by
    have := own_on (own_none (v1.alloc (.cells #[.int .u64 x.id, .int .u32 x.mb, .int .i64 x.sd, .int .i64 x.ty, .int .i64 x.pr, .int .u64 x.qt] 35))) (bdrew1 _)
    rw [show (v1.alloc (.cells #[.int .u64 x.id, .int .u32 x.mb, .int .i64 x.sd, .int .i64 x.ty, .int .i64 x.pr, .int .u64 x.qt] 35)).heap.size = v1.heap.size + 1 from by simp] at this
    exact own_base this (by omega))
  have X2 := hid (show (((v1.alloc (.cells #[] 35)).alloc (.cells #[.int .u64 x.id, .int .u32 x.mb, .int .i64 x.sd, .int .i64 x.ty, .int .i64 x.pr, .int .u64 x.qt] 35)).drew).ownsRow 0 35 6 (.slice (some ⟨v1.heap.size + 1, 0, none⟩) 1 1) 1 (its [x]) from by
    have := own_on (own_one (v1.alloc (.cells #[] 35)) x) (bdrew1 _)
    rw [show (v1.alloc (.cells #[] 35)).heap.size = v1.heap.size + 1 from by simp] at this
    exact own_base this (by omega))
  have X3 := hid (show (((v1.alloc (.cells #[.int .u64 x.id, .int .u32 x.mb, .int .i64 x.sd, .int .i64 x.ty, .int .i64 x.pr, .int .u64 x.qt] 35)).alloc (.cells #[] 35)).drew).ownsRow 0 35 6 (.slice (some ⟨v1.heap.size, 0, none⟩) 1 1) 1 (its [x]) from own_base (own_on (own_one v1 x) (btr (ball _ _) (bdrew1 _))) (Nat.zero_le _))
  have HLB := hid (show ∀ U, Below v1.heap.size v1 U → U.ownsRow 0 35 6 (.slice p n c) n (its L) from fun U hU => by
    have h1 := (HL.out v1 (btr HE.out.be V1.out)).on hU
    unfold Li at h1
    rw [HNN.out] at h1
    exact h1)
  have Q1 := hid (HLB.out _ B1.out)
  have Q2 := hid (HLB.out _ B2.out)
  have Q3 := hid (HLB.out _ B3.out)
  go_region_law (first | (refine step_its (by rfl) (.tmp 72) (.tmp 74) (by rfl) v1.heap.size 0 _ 0 [] (by rfl) O1.out _ n L (by rfl) Q1.out n (by omega) L rfl (by omega) B1.out.size ?_; intro pa ca wa HA1 HA2; have VA := hid (bel_app B1.out O1.out HA2.out); obtain ⟨f0, f1, f2, f3, f4, f5⟩ := row6 (row_on HEU.out.b VA.out)) | (refine step_its (by rfl) (.tmp 72) (.tmp 74) (by rfl) v1.heap.size 0 _ 0 [] (by rfl) O2.out _ n L (by rfl) Q2.out n (by omega) L rfl (by omega) B2.out.size ?_; intro pa ca wa HA1 HA2; have VA := hid (bel_app B2.out O2.out HA2.out); obtain ⟨f0, f1, f2, f3, f4, f5⟩ := row6 (row_on HEU.out.b VA.out); have QX := hid (own_gr X2.out HA2.out (fun k hk => by cases hk; simp [Value.ownBlock]))) | (refine step_its (by rfl) (.tmp 72) (.tmp 74) (by rfl) v1.heap.size 0 _ 0 [] (by rfl) O3.out _ n L (by rfl) Q3.out n (by omega) L rfl (by omega) B3.out.size ?_; intro pa ca wa HA1 HA2; have VA := hid (bel_app B3.out O3.out HA2.out); obtain ⟨f0, f1, f2, f3, f4, f5⟩ := row6 (row_on HEU.out.b VA.out); have QX := hid (own_gr X3.out HA2.out (fun k hk => by cases hk; simp [Value.ownBlock]))) | (refine step_its (by rfl) (.tmp 75) (.tmp 77) (by rfl) v1.heap.size 0 _ n L (by rfl) HA1.out _ 1 [x] (by rfl) QX.out (n + 1) rfl (L ++ [x]) rfl (by omega) VA.out.size ?_; intro pb cb wb HB1 HB2; have VB := hid (bel_app VA.out HA1.out HB2.out); obtain ⟨e0, e1, e2⟩ := row3 (row_on HEU.out.a VB.out); have fzb := row_frz (row_on HEU.out.a VB.out) 2) | (refine step_its (by rfl) (.tmp 75) (.tmp 77) (by rfl) v1.heap.size wa.heap.size _ n L (by rfl) (own_on HA1.out (ball _ _)) _ 1 [x] (by rfl) (own_one wa x) (n + 1) rfl (L ++ [x]) rfl (by omega) (Nat.le_trans VA.out.size (ball _ _).size) ?_; intro pb cb wb HB1 HB2; have VB := hid (bel_app (btr VA.out (ball _ _)) (own_on HA1.out (ball _ _)) HB2.out); obtain ⟨e0, e1, e2⟩ := row3 (row_on HEU.out.a VB.out); have fzb := row_frz (row_on HEU.out.a VB.out) 2))
  all_goals (
    obtain ⟨aU, zU, bU, lU, sU⟩ := re_tail HRR.out HEU.out VB.out HB1.out
    obtain ⟨U, hU⟩ : ∃ U, wb.setCell ⟨R, 2, none⟩ (.slice pb (n + 1) cb) = U := ⟨_, rfl⟩
    rw [hU] at aU zU bU lU ⊢
    obtain ⟨c0, c1, c2⟩ := row3 aU
    have ZU := hid zU
    have AS := hid (show (#[.int .i64 0, .int .i64 0, .slice none 0 0] : Array Value).size = (#[.int .i64 r, .int .i64 m, .slice pb (n + 1) cb] : Array Value).size from rfl)
    have AA := hid (show (#[.int .i64 r, .int .i64 m, .slice pb (n + 1) cb] : Array Value).all (·.oneCell') = true from by simp [Value.oneCell'])
    clear hU aU zU B1 B2 B3 O1 O2 O3 X2 X3 Q1 Q2 Q3
    go_wp2_with (refine wpList_store_row (by rfl) 29 (.tmp 4) (.tmp 80) (by rfl) (R + 2) #[.int .i64 r, .int .i64 m, .slice pb (n + 1) cb] (by rfl) (by rfl) 29 _ ZU.out infoRc AS.out AA.out ?_)
    refine bodyPost_ret (res_ct (fn := Tryz.f10) Tryz.results10 _ _ (R + 2) 29 #[.int .i64 r, .int .i64 m, .slice pb (n + 1) cb] (0, 0) _ (.int .i64 0) (by rfl) (by rfl) (setRow_heap _ _ _ _ 29 (0, 0) ZU.out) Tryz.underlying29 rfl infoR) rfl ⟨pb, cb, rfl, ?_, ?_, fun g hg => by have h1 := own_geQ lU hg; have h2 := HRR.out; omega⟩
    · exact re_end (by rw [List.length_append, HNN.out]; rfl) lU sU
    · exact setRow_below bU (by have := HRR.out; omega))
end Go.Proofs.YtnmkfdndfhefiaaGreat
