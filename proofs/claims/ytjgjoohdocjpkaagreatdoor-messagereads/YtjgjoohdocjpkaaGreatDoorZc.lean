/-
  The texts of this claim, part 3.
-/
import Derived.Test.YtjgjoohdocjpkaaGreatDoorZb
namespace Go.Proofs.YtjgjoohdocjpkaaGreatDoor.Msg
open Go.RowKit Go.Maps Go.Deep Go.Lib
set_option linter.unusedVariables false
set_option linter.unusedSimpArgs false
set_option maxRecDepth 100000
structure Evt where
  sq : Int
  kd : Int
  id : Int
  ot : Int
  tg : Int
  me : Int
  si : Int
  ty : Int
  pr : Int
  qt : Int
  pe : Int
  re : Int
  co : Int
def Evt.v (x : Evt) : Array Value := eV x.sq x.kd x.id x.ot x.tg x.me x.si x.ty x.pr x.qt x.pe x.re x.co
def Evt.l (x : Evt) : List Int := [x.sq, x.kd, x.id, x.ot, x.tg, x.me, x.si, x.ty, x.pr, x.qt, x.pe, x.re, x.co]
structure Evt.Ok (x : Evt) : Prop where
  sq : Wd x.sq
  id : Wd x.id
  ot : Wd x.ot
  tg : Wd x.tg
  me : 0 ≤ x.me ∧ x.me < 4294967296
  qt : Wd x.qt
  pe : Wd x.pe
/-- what it says: the kind of its frame, or 0. -/
def Evt.k (x : Evt) : Int := if 1 ≤ x.kd ∧ x.kd ≤ 5 then 64 + x.kd else 0
def Evt.f (x : Evt) : Int → Int := evF x.sq x.id x.ot x.tg x.me x.si x.ty x.pr x.qt x.pe x.re x.co
def Evt.F (x : Evt) : Int → Int := only (tagsL x.k) x.f
def evL (k : Int) (f : Int → Int) : List Int := [f 34, k - 64, f 11, f 37, f 41, u32 (f 1), s64 (f 54), s64 (f 40), s64 (f 44), f 38, f 210, s64 (f 378), s64 (f 103)]
def Evt.told (x : Evt) : Bool := inB (tagsL x.k) x.f && (evL x.k x.F == x.l)
def Evt.e (x : Evt) : Int := if x.k = 0 then 41 else if x.told then 0 else 40
theorem evL_iff (k : Int) (f : Int → Int) (x : Evt) : evL k f = x.l ↔ evtV k f = x.v := by
  unfold evL evtV Evt.l Evt.v eV
  simp
theorem sayE_none (x : Evt) (w : World) (h : x.k = 0) :
    Calls Tryz.prog 45 #[.agg x.v] w fun e w' => e = .returned (.tuple #[.agg #[.int .u8 0, .map none], .int .i64 41]) ∧ Below w.heap.size w w' := by
  unfold Evt.k at h
  unfold Evt.v eV
  obtain ⟨sq, kd, id, ot, tg, me, si, ty, pr, qt, pe, re, co⟩ := x
  simp only at h ⊢
  by_cases c1 : 1 ≤ kd
  · by_cases c3 : kd ≤ 5
    · rw [if_pos ⟨c1, c3⟩] at h; omega
    · have c4 : 5 < kd := by omega
      have c2 : ¬ kd < 1 := by omega
      clear h c1 c3
      go_enter Tryz.func45, Tryz.ntmps45
      go_wp2
      exact bodyPost_ret (res46 Tryz.f45 2 3 Tryz.results45 _ _ (w.heap.size + 1) #[.int .u8 0, .map none] _ (by rfl) (by rfl) (heap2 _ _ _) info46) rfl ⟨rfl, btr (ball _ _) (ball _ _)⟩
  · have c2 : kd < 1 := by omega
    clear h c1
    go_enter Tryz.func45, Tryz.ntmps45
    go_wp2
    exact bodyPost_ret (res46 Tryz.f45 2 3 Tryz.results45 _ _ (w.heap.size + 1) #[.int .u8 0, .map none] _ (by rfl) (by rfl) (heap2 _ _ _) info46) rfl ⟨rfl, btr (ball _ _) (ball _ _)⟩
theorem kE_cases (x : Evt) (h : ¬ x.k = 0) : 1 ≤ x.kd ∧ x.kd ≤ 5 ∧ x.k = 64 + x.kd := by
  unfold Evt.k at h ⊢
  by_cases h1 : 1 ≤ x.kd ∧ x.kd ≤ 5
  · exact ⟨h1.1, h1.2, by rw [if_pos h1]⟩
  · rw [if_neg h1] at h; exact absurd rfl h
theorem sayE_bad (x : Evt) (hx : x.Ok) (w : World) (h : ¬ x.e = 0) :
    Calls Tryz.prog 45 #[.agg x.v] w fun e w' => e = .returned (.tuple #[.agg #[.int .u8 0, .map none], .int .i64 x.e]) ∧ Below w.heap.size w w' := by
  by_cases h0 : x.k = 0
  · have : x.e = 41 := by unfold Evt.e; rw [if_pos h0]
    rw [this]
    exact sayE_none x w h0
  · have ht : x.told = false := by
      cases ht : x.told
      · rfl
      · exfalso; apply h; unfold Evt.e; rw [if_neg h0, ht]; rfl
    have he : x.e = 40 := by unfold Evt.e; rw [if_neg h0, ht]; rfl
    rw [he]
    clear h he
    have hio := (evL_iff x.k x.F x)
    unfold Evt.told at ht
    have hkk := kE_cases x h0
    unfold Evt.F Evt.f at *
    obtain ⟨sq, kd, id, ot, tg, me, si, ty, pr, qt, pe, re, co⟩ := x
    unfold Evt.v Evt.l at *
    simp only at *
    obtain ⟨q1, q2, q3, q4, q5, q6, q7⟩ := hx
    obtain ⟨c1, c5, hk⟩ := hkk
    cases hin : inB (tagsL (Evt.k ⟨sq, kd, id, ot, tg, me, si, ty, pr, qt, pe, re, co⟩)) (evF sq id ot tg me si ty pr qt pe re co) with
    | false =>
      rw [hk] at hin
      exact sayE_out sq kd id ot tg me si ty pr qt pe re co w c1 c5 q1 q2 q3 q4 q5 q6 q7 hin
    | true =>
      rw [hin] at ht
      simp only [Bool.true_and] at ht
      have hne : ¬ _ := fun e => by rw [hio.2 e] at ht; simp at ht
      rw [hk] at hin hne
      exact sayE_no sq kd id ot tg me si ty pr qt pe re co w c1 c5 q1 q2 q3 q4 q5 q6 q7 hin hne
theorem eE_zero (x : Evt) (h : x.e = 0) : ¬ x.k = 0 ∧ x.told = true := by
  unfold Evt.e at h
  by_cases h0 : x.k = 0
  · rw [if_pos h0] at h; omega
  · rw [if_neg h0] at h
    refine ⟨h0, ?_⟩
    cases ht : x.told
    · rw [ht] at h; simp at h
    · rfl
theorem sayE_ok (x : Evt) (hx : x.Ok) (w : World) (h : x.e = 0) :
    Calls Tryz.prog 45 #[.agg x.v] w fun e w' => ∃ b n, e = .returned (.tuple #[.agg #[.int .u8 x.k, .map (some b)], .int .i64 0]) ∧ Fm w' b n x.F ∧ Below w.heap.size w w' := by
  obtain ⟨h0, ht⟩ := eE_zero x h
  have hio := (evL_iff x.k x.F x)
  unfold Evt.told at ht
  simp only [Bool.and_eq_true, beq_iff_eq] at ht
  obtain ⟨hin, hil⟩ := ht
  have heq := hio.1 hil
  have hkk := kE_cases x h0
  unfold Evt.F Evt.f at *
  obtain ⟨sq, kd, id, ot, tg, me, si, ty, pr, qt, pe, re, co⟩ := x
  unfold Evt.v at *
  simp only at *
  obtain ⟨q1, q2, q3, q4, q5, q6, q7⟩ := hx
  obtain ⟨c1, c5, hk⟩ := hkk
  rw [hk] at hin heq ⊢
  exact sayE_yes sq kd id ot tg me si ty pr qt pe re co w c1 c5 q1 q2 q3 q4 q5 q6 q7 hin heq
end Go.Proofs.YtjgjoohdocjpkaaGreatDoor.Msg
namespace Go.Proofs
open Go.Shelf
def Tryz.lays283_ren : Go.Shelf.Ren := ⟨fun | 283 => 93 | n => n, fun | 3 => 3 | 9 => 9 | 4 => 4 | n => n, fun | n => n⟩
theorem Tryz.lays283 : Go.Proofs.Lays.n283 Tryz.prog Tryz.lays283_ren := {
  mixed := by kernel_rfl
  f283 := Tryz.func93.trans (congrArg some (by kernel_rfl))
  t3 := Tryz.underlying3
  a3 := Tryz.isAgg3
  z3 := Tryz.sizeOf3
  v3 := Tryz.zeroValue3
  t4 := Tryz.underlying4
  a4 := Tryz.isAgg4
  z4 := Tryz.sizeOf4
  v4 := Tryz.zeroValue4
  t9 := Tryz.underlying9
  a9 := Tryz.isAgg9
  z9 := Tryz.sizeOf9
  v9 := Tryz.zeroValue9 }
open Go.Lib in
theorem Tryz.internal_strconv_small (i : Nat) (h : i < 100) (w : World) :
    Calls Tryz.prog 93 #[.int .i64 i] w fun e w' => e = .returned (.string ⟨(Lib.decDigits i).toArray⟩) ∧ w' = w := Any.internal_strconv_small Tryz.lays283 i h w
def Tryz.laysM284_ren : Go.Shelf.Ren := ⟨fun | 284 => 94 | 129 => 105 | 317 => 104 | 318 => 106 | n => n, fun | 53 => 24 | 3 => 3 | 212 => 146 | 0 => 0 | 4 => 4 | 46 => 130 | 5 => 5 | 9 => 9 | n => n, fun | 17 => 3 | n => n⟩
theorem Tryz.laysM284 : Go.Proofs.LaysM.n284 Tryz.prog Tryz.laysM284_ren := {
  mixed := by kernel_rfl
  f129 := Tryz.func105.trans (congrArg some (by kernel_rfl))
  f284 := Tryz.func94.trans (congrArg some (by kernel_rfl))
  f317 := Tryz.func104.trans (congrArg some (by kernel_rfl))
  f318 := Tryz.func106.trans (congrArg some (by kernel_rfl))
  t0 := Tryz.underlying0
  a0 := Tryz.isAgg0
  z0 := Tryz.sizeOf0
  v0 := Tryz.zeroValue0
  t3 := Tryz.underlying3
  a3 := Tryz.isAgg3
  z3 := Tryz.sizeOf3
  v3 := Tryz.zeroValue3
  t4 := Tryz.underlying4
  a4 := Tryz.isAgg4
  z4 := Tryz.sizeOf4
  v4 := Tryz.zeroValue4
  t5 := Tryz.underlying5
  a5 := Tryz.isAgg5
  z5 := Tryz.sizeOf5
  v5 := Tryz.zeroValue5
  t9 := Tryz.underlying9
  a9 := Tryz.isAgg9
  z9 := Tryz.sizeOf9
  v9 := Tryz.zeroValue9
  t46 := Tryz.underlying130
  a46 := Tryz.isAgg130
  z46 := Tryz.sizeOf130
  v46 := Tryz.zeroValue130
  t53 := Tryz.underlying24
  a53 := Tryz.isAgg24
  z53 := Tryz.sizeOf24
  v53 := Tryz.zeroValue24
  t212 := Tryz.underlying146
  a212 := Tryz.isAgg146
  z212 := Tryz.sizeOf146
  v212 := Tryz.zeroValue146
  g17 := by kernel_rfl
  i0 := by kernel_rfl
  i3 := by kernel_rfl
  i4 := by kernel_rfl
  i5 := by kernel_rfl
  i9 := by kernel_rfl
  i46 := by kernel_rfl
  i53 := by kernel_rfl
  i212 := by kernel_rfl
  m17 := by kernel_rfl }
open Go.Lib in
theorem Tryz.internal_strconv_numDigits (u : Nat) (h1 : 1 ≤ u) (h2 : u < 18446744073709551616) (w : World) (htab : Lib.TabIs Tryz.prog w "internal/strconv.uint64pow10" .u64 Lib.pow10Tab) :
    Calls Tryz.prog 94 #[.int .u64 u] w fun e w' => e = .returned (.int .i64 (Lib.nDigits u)) ∧ w' = w := Any.internal_strconv_numDigits Tryz.laysM284 u h1 h2 w htab
def Tryz.lays285_ren : Go.Shelf.Ren := ⟨fun | 285 => 95 | n => n, fun | 37 => 22 | 53 => 24 | 3 => 3 | 4 => 4 | 51 => 25 | 9 => 9 | 5 => 5 | 0 => 0 | n => n, fun | n => n⟩
theorem Tryz.lays285 : Go.Proofs.Lays.n285 Tryz.prog Tryz.lays285_ren := {
  mixed := by kernel_rfl
  f285 := Tryz.func95.trans (congrArg some (by kernel_rfl))
  t0 := Tryz.underlying0
  a0 := Tryz.isAgg0
  z0 := Tryz.sizeOf0
  v0 := Tryz.zeroValue0
  t3 := Tryz.underlying3
  a3 := Tryz.isAgg3
  z3 := Tryz.sizeOf3
  v3 := Tryz.zeroValue3
  t4 := Tryz.underlying4
  a4 := Tryz.isAgg4
  z4 := Tryz.sizeOf4
  v4 := Tryz.zeroValue4
  t5 := Tryz.underlying5
  a5 := Tryz.isAgg5
  z5 := Tryz.sizeOf5
  v5 := Tryz.zeroValue5
  t9 := Tryz.underlying9
  a9 := Tryz.isAgg9
  z9 := Tryz.sizeOf9
  v9 := Tryz.zeroValue9
  t37 := Tryz.underlying22
  a37 := Tryz.isAgg22
  z37 := Tryz.sizeOf22
  v37 := Tryz.zeroValue22
  t51 := Tryz.underlying25
  a51 := Tryz.isAgg25
  z51 := Tryz.sizeOf25
  v51 := Tryz.zeroValue25
  t53 := Tryz.underlying24
  a53 := Tryz.isAgg24
  z53 := Tryz.sizeOf24
  v53 := Tryz.zeroValue24 }
open Go.RowKit Go.Sort Go.Lib in
theorem Tryz.internal_strconv_formatBase10 (blk off cap : Nat) (u : Nat) (d : Array UInt8) (w : World) (hH : Holds (fun (b : UInt8) => Value.int .u8 (b.toNat : Int)) w blk off d) (hu : u < 10 ^ d.size) (hu64 : u < 18446744073709551616) (hsz : d.size < 4611686018427387904) :
    Calls Tryz.prog 95 #[.slice (some ⟨blk, off, none⟩) d.size cap, .int .u64 u] w fun e w' =>
      e = .returned (.tuple #[]) ∧ ∃ (n v' : Nat) (dk : Array UInt8), w' = (putRow (fun (b : UInt8) => Value.int .u8 (b.toNat : Int)) w blk off dk).drewN n ∧ FmtInv d.size u 0 v' dk := Any.internal_strconv_formatBase10 Tryz.lays285 blk off cap u d w hH hu hu64 hsz
def Tryz.laysPu14_ren : Go.Shelf.Ren := ⟨fun | 14 => 77 | 16 => 83 | 17 => 84 | 19 => 87 | 20 => 88 | 21 => 89 | 22 => 90 | 23 => 91 | 24 => 92 | 25 => 101 | 27 => 103 | 26 => 102 | 28 => 111 | 29 => 114 | 30 => 93 | 31 => 94 | 32 => 95 | 33 => 96 | 35 => 105 | 34 => 104 | 36 => 106 | 37 => 107 | 38 => 108 | 39 => 112 | 40 => 113 | n => n, fun | 9 => 9 | 3 => 3 | 22 => 24 | 24 => 119 | 25 => 120 | 4 => 4 | 34 => 128 | 5 => 5 | 36 => 130 | 37 => 22 | 0 => 0 | 39 => 131 | 21 => 21 | 44 => 143 | 47 => 151 | 50 => 154 | 48 => 152 | 2 => 2 | 52 => 134 | 55 => 137 | 59 => 146 | 60 => 25 | 20 => 20 | 61 => 147 | 65 => 157 | 66 => 158 | 67 => 159 | n => n, fun | 0 => 1 | 1 => 2 | 2 => 3 | 3 => 4 | 4 => 5 | n => n⟩
theorem Tryz.laysPu14 : Go.Proofs.LaysPu.n14 Tryz.prog Tryz.laysPu14_ren := {
  mixed := by kernel_rfl
  f14 := Tryz.func77.trans (congrArg some (by kernel_rfl))
  f16 := Tryz.func83.trans (congrArg some (by kernel_rfl))
  f17 := Tryz.func84.trans (congrArg some (by kernel_rfl))
  f19 := Tryz.func87.trans (congrArg some (by kernel_rfl))
  f20 := Tryz.func88.trans (congrArg some (by kernel_rfl))
  f21 := Tryz.func89.trans (congrArg some (by kernel_rfl))
  f22 := Tryz.func90.trans (congrArg some (by kernel_rfl))
  f23 := Tryz.func91.trans (congrArg some (by kernel_rfl))
  f24 := Tryz.func92.trans (congrArg some (by kernel_rfl))
  f25 := Tryz.func101.trans (congrArg some (by kernel_rfl))
  f26 := Tryz.func102.trans (congrArg some (by kernel_rfl))
  f27 := Tryz.func103.trans (congrArg some (by kernel_rfl))
  f28 := Tryz.func111.trans (congrArg some (by kernel_rfl))
  f29 := Tryz.func114.trans (congrArg some (by kernel_rfl))
  f30 := Tryz.func93.trans (congrArg some (by kernel_rfl))
  f31 := Tryz.func94.trans (congrArg some (by kernel_rfl))
  f32 := Tryz.func95.trans (congrArg some (by kernel_rfl))
  f33 := Tryz.func96.trans (congrArg some (by kernel_rfl))
  f34 := Tryz.func104.trans (congrArg some (by kernel_rfl))
  f35 := Tryz.func105.trans (congrArg some (by kernel_rfl))
  f36 := Tryz.func106.trans (congrArg some (by kernel_rfl))
  f37 := Tryz.func107.trans (congrArg some (by kernel_rfl))
  f38 := Tryz.func108.trans (congrArg some (by kernel_rfl))
  f39 := Tryz.func112.trans (congrArg some (by kernel_rfl))
  f40 := Tryz.func113.trans (congrArg some (by kernel_rfl))
  t0 := Tryz.underlying0
  a0 := Tryz.isAgg0
  z0 := Tryz.sizeOf0
  v0 := Tryz.zeroValue0
  i0 := by kernel_rfl
  t2 := Tryz.underlying2
  a2 := Tryz.isAgg2
  z2 := Tryz.sizeOf2
  v2 := Tryz.zeroValue2
  i2 := by kernel_rfl
  t3 := Tryz.underlying3
  a3 := Tryz.isAgg3
  z3 := Tryz.sizeOf3
  v3 := Tryz.zeroValue3
  i3 := by kernel_rfl
  t4 := Tryz.underlying4
  a4 := Tryz.isAgg4
  z4 := Tryz.sizeOf4
  v4 := Tryz.zeroValue4
  i4 := by kernel_rfl
  t5 := Tryz.underlying5
  a5 := Tryz.isAgg5
  z5 := Tryz.sizeOf5
  v5 := Tryz.zeroValue5
  i5 := by kernel_rfl
  t9 := Tryz.underlying9
  a9 := Tryz.isAgg9
  z9 := Tryz.sizeOf9
  v9 := Tryz.zeroValue9
  i9 := by kernel_rfl
  t20 := Tryz.underlying20
  a20 := Tryz.isAgg20
  z20 := Tryz.sizeOf20
  v20 := Tryz.zeroValue20
  i20 := by kernel_rfl
  t21 := Tryz.underlying21
  a21 := Tryz.isAgg21
  z21 := Tryz.sizeOf21
  v21 := Tryz.zeroValue21
  i21 := by kernel_rfl
  t22 := Tryz.underlying24
  a22 := Tryz.isAgg24
  z22 := Tryz.sizeOf24
  v22 := Tryz.zeroValue24
  i22 := by kernel_rfl
  t24 := Tryz.underlying119
  a24 := Tryz.isAgg119
  z24 := Tryz.sizeOf119
  v24 := Tryz.zeroValue119
  i24 := by kernel_rfl
  t25 := Tryz.underlying120
  a25 := Tryz.isAgg120
  z25 := Tryz.sizeOf120
  v25 := Tryz.zeroValue120
  i25 := by kernel_rfl
  t34 := Tryz.underlying128
  a34 := Tryz.isAgg128
  z34 := Tryz.sizeOf128
  v34 := Tryz.zeroValue128
  i34 := by kernel_rfl
  c34 := by kernel_rfl
  t36 := Tryz.underlying130
  a36 := Tryz.isAgg130
  z36 := Tryz.sizeOf130
  v36 := Tryz.zeroValue130
  i36 := by kernel_rfl
  t37 := Tryz.underlying22
  a37 := Tryz.isAgg22
  z37 := Tryz.sizeOf22
  v37 := Tryz.zeroValue22
  i37 := by kernel_rfl
  t39 := Tryz.underlying131
  a39 := Tryz.isAgg131
  z39 := Tryz.sizeOf131
  v39 := Tryz.zeroValue131
  i39 := by kernel_rfl
  t44 := Tryz.underlying143
  a44 := Tryz.isAgg143
  z44 := Tryz.sizeOf143
  v44 := Tryz.zeroValue143
  i44 := by kernel_rfl
  t47 := Tryz.underlying151
  a47 := Tryz.isAgg151
  z47 := Tryz.sizeOf151
  v47 := Tryz.zeroValue151
  i47 := by kernel_rfl
  t48 := Tryz.underlying152
  a48 := Tryz.isAgg152
  z48 := Tryz.sizeOf152
  v48 := Tryz.zeroValue152
  i48 := by kernel_rfl
  t50 := Tryz.underlying154
  a50 := Tryz.isAgg154
  z50 := Tryz.sizeOf154
  v50 := Tryz.zeroValue154
  i50 := by kernel_rfl
  t52 := Tryz.underlying134
  a52 := Tryz.isAgg134
  z52 := Tryz.sizeOf134
  v52 := Tryz.zeroValue134
  i52 := by kernel_rfl
  t55 := Tryz.underlying137
  a55 := Tryz.isAgg137
  z55 := Tryz.sizeOf137
  v55 := Tryz.zeroValue137
  i55 := by kernel_rfl
  t59 := Tryz.underlying146
  a59 := Tryz.isAgg146
  z59 := Tryz.sizeOf146
  v59 := Tryz.zeroValue146
  i59 := by kernel_rfl
  t60 := Tryz.underlying25
  a60 := Tryz.isAgg25
  z60 := Tryz.sizeOf25
  v60 := Tryz.zeroValue25
  i60 := by kernel_rfl
  t61 := Tryz.underlying147
  a61 := Tryz.isAgg147
  z61 := Tryz.sizeOf147
  t65 := Tryz.underlying157
  a65 := Tryz.isAgg157
  z65 := Tryz.sizeOf157
  v65 := Tryz.zeroValue157
  i65 := by kernel_rfl
  t66 := Tryz.underlying158
  a66 := Tryz.isAgg158
  z66 := Tryz.sizeOf158
  v66 := Tryz.zeroValue158
  i66 := by kernel_rfl
  t67 := Tryz.underlying159
  a67 := Tryz.isAgg159
  z67 := Tryz.sizeOf159
  v67 := Tryz.zeroValue159
  i67 := by kernel_rfl
  g0 := by kernel_rfl
  m0 := by kernel_rfl
  g1 := by kernel_rfl
  m1 := by kernel_rfl
  g2 := by kernel_rfl
  m2 := by kernel_rfl
  g3 := by kernel_rfl
  m3 := by kernel_rfl
  g4 := by kernel_rfl
  m4 := by kernel_rfl }
open Go.RowKit in
theorem Tryz.strconv_ParseUint_10_at64_ok (s : ByteArray) (hmax : s.size ≤ 9223372036854775806) (u : Nat) (h : Lib.parseUintB 64 s.data.toList = .ok u) (w : World) :
    Calls Tryz.prog 77 #[.string s, .int .i64 10, .int .i64 64] w fun e w' => e = .returned (.tuple #[.int .u64 u, .nilIface]) ∧ (w' = w ∨ w' = Lib.bytesWorld w 5 s) := Any.strconv_ParseUint_10_at64_ok Tryz.laysPu14 s hmax u h w
open Go.RowKit in
theorem Tryz.strconv_ParseUint_10_at64_syntax_var (s : ByteArray) (hlim : s.size ≤ 281474976710656) (h : Lib.parseUintB 64 s.data.toList = .«syntax») (tp : TypeId) (p : Value) (w : World) (hvar : w.var? Tryz.prog "strconv.ErrSyntax" = some #[.iface tp p]) :
    Calls Tryz.prog 77 #[.string s, .int .i64 10, .int .i64 64] w fun e w' => ∃ N, e = .returned (.tuple #[.int .u64 0, .iface 131 (.pointer (some ⟨N, 0, none⟩))]) ∧ w.heap.size ≤ N ∧ w'.heap[N]? = some (.cells #[.string ⟨#[80, 97, 114, 115, 101, 85, 105, 110, 116]⟩, .string s, .iface tp p] 143 (0, 0)) ∧ Below w.heap.size w w' := Any.strconv_ParseUint_10_at64_syntax_var Tryz.laysPu14 s hlim h tp p w hvar
open Go.RowKit in
theorem Tryz.strconv_ParseUint_10_at64_range_var (s : ByteArray) (hlim : s.size ≤ 281474976710656) (h : Lib.parseUintB 64 s.data.toList = .range) (tp : TypeId) (p : Value) (w : World) (hvar : w.var? Tryz.prog "strconv.ErrRange" = some #[.iface tp p]) :
    Calls Tryz.prog 77 #[.string s, .int .i64 10, .int .i64 64] w fun e w' => ∃ N, e = .returned (.tuple #[.int .u64 18446744073709551615, .iface 131 (.pointer (some ⟨N, 0, none⟩))]) ∧ w.heap.size ≤ N ∧ w'.heap[N]? = some (.cells #[.string ⟨#[80, 97, 114, 115, 101, 85, 105, 110, 116]⟩, .string s, .iface tp p] 143 (0, 0)) ∧ Below w.heap.size w w' := Any.strconv_ParseUint_10_at64_range_var Tryz.laysPu14 s hlim h tp p w hvar
end Go.Proofs
namespace Go.Proofs.YtjgjoohdocjpkaaGreatDoor
open Go.Lib
set_option linter.unusedVariables false
def Dig (c : UInt8) : Prop := 48 ≤ c.toNat ∧ c.toNat ≤ 57
instance (c : UInt8) : Decidable (Dig c) := by unfold Dig; exact inferInstance
/-- What digits are worth behind a number. -/
def val (acc : Nat) (l : List UInt8) : Nat := l.foldl (fun a c => a * 10 + (c.toNat - 48)) acc
theorem val_nil (acc : Nat) : val acc [] = acc := by simp only [val, List.foldl_nil]
theorem val_cons (acc : Nat) (c : UInt8) (r : List UInt8) : val acc (c :: r) = val (acc * 10 + (c.toNat - 48)) r := by simp only [val, List.foldl_cons]

theorem val_ge (l : List UInt8) : ∀ (acc : Nat), acc ≤ val acc l := by
  induction l with
  | nil => intro acc; rw [val_nil]; exact Nat.le_refl _
  | cons c r ih => intro acc; rw [val_cons]; exact Nat.le_trans (by omega) (ih _)
theorem val_snoc : ∀ (l : List UInt8) (acc : Nat) (c : UInt8), val acc (l ++ [c]) = val acc l * 10 + (c.toNat - 48)
  | [], acc, c => by simp only [List.nil_append, val_cons, val_nil]
  | a :: r, acc, c => by simp only [List.cons_append, val_cons]; exact val_snoc r _ c

theorem parse_of : ∀ (l : List UInt8) (acc : Nat), (∀ c ∈ l, Dig c) → val acc l ≤ 18446744073709551615 → parseUintM 18446744073709551615 acc l = .ok (val acc l)
  | [], acc, _, _ => rfl
  | c :: r, acc, hd, hv => by
    have h1 := hd c (List.mem_cons_self ..)
    simp only [val_cons] at hv ⊢
    have h2 := val_ge r (acc * 10 + (c.toNat - 48))
    simp only [parseUintM]
    rw [if_pos (show 48 ≤ c.toNat ∧ c.toNat ≤ 57 from h1), if_neg (by omega), if_neg (by omega)]
    exact parse_of r _ (fun x hx => hd x (List.mem_cons_of_mem _ hx)) hv
theorem of_parse : ∀ (l : List UInt8) (acc k : Nat), acc ≤ 18446744073709551615 → parseUintM 18446744073709551615 acc l = .ok k → (∀ c ∈ l, Dig c) ∧ k = val acc l ∧ k ≤ 18446744073709551615
  | [], acc, k, ha, h => by
    simp only [parseUintM] at h
    obtain rfl : acc = k := by injection h
    exact ⟨fun _ h => by simp at h, rfl, ha⟩
  | c :: r, acc, k, ha, h => by
    simp only [parseUintM] at h
    split at h
    · rename_i h1
      split at h
      · cases h
      · split at h
        · cases h
        · rename_i h2 h3
          obtain ⟨a, b, e⟩ := of_parse r _ k (by omega) h
          exact ⟨fun x hx => by rcases List.mem_cons.1 hx with rfl | hx; exact h1; exact a x hx, b, e⟩
    · cases h

theorem dig_of (d : Nat) (h : d < 10) : Dig (UInt8.ofNat (48 + d)) ∧ (UInt8.ofNat (48 + d)).toNat - 48 = d := by
  have e : (UInt8.ofNat (48 + d)).toNat = 48 + d := by simp; omega
  unfold Dig; rw [e]; omega
theorem of_dig (c : UInt8) (h : Dig c) : UInt8.ofNat (48 + (c.toNat - 48)) = c := by
  obtain ⟨h1, h2⟩ := h
  apply UInt8.toNat_inj.1
  simp; omega

theorem dec_dig (n : Nat) : ∀ c ∈ decDigits n, Dig c := by
  induction n using Nat.strongRecOn with
  | _ n ih =>
    by_cases h : n < 10
    · rw [decDigits_one h]; intro c hc; obtain rfl := List.mem_singleton.1 hc; exact (dig_of n h).1
    · rw [decDigits, dif_neg h]; intro c hc
      rcases List.mem_append.1 hc with hc | hc
      · exact ih (n / 10) (by omega) c hc
      · obtain rfl := List.mem_singleton.1 hc; exact (dig_of (n % 10) (by omega)).1
theorem val_dec (n : Nat) : val 0 (decDigits n) = n := by
  induction n using Nat.strongRecOn with
  | _ n ih =>
    by_cases h : n < 10
    · rw [decDigits_one h]; simp only [val_cons, val_nil]; rw [(dig_of n h).2]; omega
    · rw [decDigits, dif_neg h, val_snoc, ih (n / 10) (by omega), (dig_of (n % 10) (by omega)).2]; omega
theorem dec_ne (n : Nat) : decDigits n ≠ [] := by
  intro h; have := decDigits_length n; rw [h] at this; have := nDigits_pos n; simp at *; omega
theorem dec_len (n : Nat) (h : n < 18446744073709551616) : 1 ≤ (decDigits n).length ∧ (decDigits n).length ≤ 20 := by
  rw [decDigits_length]; exact ⟨nDigits_pos n, nDigits_le20 n h⟩
theorem head_append (l m : List UInt8) (h : l ≠ []) : (l ++ m).head? = l.head? := by cases l <;> simp_all
theorem dec_head (n : Nat) : (decDigits n).head? = some 48 → n = 0 := by
  induction n using Nat.strongRecOn with
  | _ n ih =>
    by_cases h : n < 10
    · rw [decDigits_one h]; intro e
      have e1 : UInt8.ofNat (48 + n) = 48 := by simpa using e
      have := (dig_of n h).2; rw [e1] at this; simp at this; omega
    · rw [decDigits, dif_neg h, head_append _ _ (dec_ne _)]; intro e
      have := ih (n / 10) (by omega) e; omega
theorem val_pos : ∀ (l : List UInt8), l ≠ [] → (∀ c ∈ l, Dig c) → l.head? ≠ some 48 → 0 < val 0 l
  | [], h, _, _ => absurd rfl h
  | c :: r, _, hd, hh => by
    have h1 := hd c (List.mem_cons_self ..)
    have h2 : c ≠ 48 := by simpa using hh
    have h3 : c.toNat ≠ 48 := fun e => h2 (UInt8.toNat_inj.1 (by simpa using e))
    have h4 := val_ge r (0 * 10 + (c.toNat - 48))
    simp only [val_cons]; unfold Dig at h1; omega
theorem snoc_of (l : List UInt8) (h : l ≠ []) : ∃ m c, l = m ++ [c] := ⟨l.dropLast, l.getLast h, (List.dropLast_concat_getLast h).symm⟩
theorem dec_val_aux : ∀ (n : Nat) (l : List UInt8), l.length = n → l ≠ [] → (∀ c ∈ l, Dig c) → (l.length = 1 ∨ l.head? ≠ some 48) → decDigits (val 0 l) = l := by
  intro n
  induction n with
  | zero => intro l hl hn _ _; exact absurd (List.length_eq_zero_iff.1 hl) hn
  | succ n ih =>
    intro l hl hn hd hh
    obtain ⟨m, c, rfl⟩ := snoc_of l hn
    have hc := hd c (by simp)
    have hlm : m.length = n := by simpa using hl
    rw [val_snoc]
    have hc' := hc
    unfold Dig at hc'
    by_cases hm : m = []
    · subst hm
      simp only [val_nil, List.nil_append, Nat.zero_mul, Nat.zero_add]
      rw [decDigits_one (by omega), of_dig c hc]
    · have hml : 1 ≤ m.length := by cases m; exact absurd rfl hm; simp
      have hh' : m.head? ≠ some 48 := by
        rcases hh with hh | hh
        · simp at hh; exact absurd hh hm
        · rwa [head_append _ _ hm] at hh
      have hdm : ∀ c ∈ m, Dig c := fun x hx => hd x (List.mem_append_left _ hx)
      have hp := val_pos m hm hdm hh'
      rw [decDigits, dif_neg (by omega), show (val 0 m * 10 + (c.toNat - 48)) / 10 = val 0 m by omega, show (val 0 m * 10 + (c.toNat - 48)) % 10 = c.toNat - 48 by omega, of_dig c hc, ih m hlm hm hdm (Or.inr hh')]
theorem dec_val (l : List UInt8) (hn : l ≠ []) (hd : ∀ c ∈ l, Dig c) (hh : l.length = 1 ∨ l.head? ≠ some 48) : decDigits (val 0 l) = l := dec_val_aux l.length l rfl hn hd hh

/-- The number of which a text is the one form. -/
def num (l : List UInt8) : Option Nat :=
  match parseUintB 64 l with
  | .ok k => if decDigits k = l then some k else none
  | _ => none
theorem pB (l : List UInt8) (h : l ≠ []) : parseUintB 64 l = parseUintM 18446744073709551615 0 l := by
  unfold parseUintB; rw [if_neg h]
theorem parse_dec (n : Nat) (h : n < 18446744073709551616) : parseUintB 64 (decDigits n) = .ok n := by
  rw [pB _ (dec_ne n), parse_of _ _ (dec_dig n) (by rw [val_dec]; omega), val_dec]
theorem num_dec (n : Nat) (h : n < 18446744073709551616) : num (decDigits n) = some n := by
  unfold num; rw [parse_dec n h]; simp
theorem num_some (l : List UInt8) (k : Nat) (h : num l = some k) : decDigits k = l ∧ k < 18446744073709551616 := by
  unfold num at h
  split at h
  · rename_i k' hk
    split at h
    · rename_i e
      obtain rfl : k' = k := by simpa using h
      refine ⟨e, ?_⟩
      have hl : l ≠ [] := by rw [← e]; exact dec_ne _
      rw [pB l hl] at hk
      have := (of_parse l 0 k' (by omega) hk).2.2; omega
    · cases h
  · cases h
theorem num_iff (l : List UInt8) (k : Nat) (hk : k < 18446744073709551616) : num l = some k ↔ decDigits k = l :=
  ⟨fun h => (num_some l k h).1, fun h => by rw [← h]; exact num_dec k hk⟩

/-- The document's reading. -/
def natA : Nat → List UInt8 → Option Nat
  | acc, [] => some acc
  | acc, c :: r => if ¬ Dig c then none else if (18446744073709551615 - (c.toNat - 48)) / 10 < acc then none else natA (acc * 10 + (c.toNat - 48)) r
def nat? (l : List UInt8) : Option Nat :=
  if l.length < 1 ∨ 20 < l.length ∨ (1 < l.length ∧ l.head? = some 48) then none else natA 0 l
theorem natA_of : ∀ (l : List UInt8) (acc : Nat), (∀ c ∈ l, Dig c) → val acc l ≤ 18446744073709551615 → natA acc l = some (val acc l)
  | [], acc, _, _ => rfl
  | c :: r, acc, hd, hv => by
    have h1 := hd c (List.mem_cons_self ..)
    simp only [val_cons] at hv ⊢
    have h2 := val_ge r (acc * 10 + (c.toNat - 48))
    simp only [natA]
    rw [if_neg (by simpa using h1), if_neg (by unfold Dig at h1; omega)]
    exact natA_of r _ (fun x hx => hd x (List.mem_cons_of_mem _ hx)) hv
theorem of_natA : ∀ (l : List UInt8) (acc k : Nat), acc ≤ 18446744073709551615 → natA acc l = some k → (∀ c ∈ l, Dig c) ∧ k = val acc l ∧ k ≤ 18446744073709551615
  | [], acc, k, ha, h => by
    simp only [natA] at h
    obtain rfl : acc = k := by simpa using h
    exact ⟨fun _ h => by simp at h, rfl, ha⟩
  | c :: r, acc, k, ha, h => by
    simp only [natA] at h
    split at h
    · cases h
    · rename_i h1
      split at h
      · cases h
      · rename_i h2
        have h1' : Dig c := by simpa using h1
        obtain ⟨a, b, e⟩ := of_natA r _ k (by unfold Dig at h1'; omega) h
        exact ⟨fun x hx => by rcases List.mem_cons.1 hx with rfl | hx; exact h1'; exact a x hx, b, e⟩
theorem nat_num (l : List UInt8) : nat? l = num l := by
  cases h : num l with
  | some k =>
    obtain ⟨e, hk⟩ := num_some l k h
    subst e
    have hl := dec_len k hk
    unfold nat?
    rw [if_neg, natA_of _ _ (dec_dig k) (by rw [val_dec]; omega), val_dec]
    rintro (h1 | h1 | ⟨h1, h2⟩)
    · omega
    · omega
    · have := dec_head k h2; subst this; rw [decDigits_one (by omega)] at h1; simp at h1
  | none =>
    unfold nat?
    split
    · rfl
    · rename_i hc
      cases hA : natA 0 l with
      | none => rfl
      | some k =>
        exfalso
        obtain ⟨hd, e, hk⟩ := of_natA l 0 k (by omega) hA
        have hl : l ≠ [] := by intro h0; subst h0; simp at hc
        have hv := dec_val l hl hd (by
          by_cases h1 : l.length = 1
          · exact Or.inl h1
          · right; intro h2; apply hc; right; right
            have : 1 ≤ l.length := by cases l; exact absurd rfl hl; simp
            exact ⟨by omega, h2⟩)
        rw [← e] at hv
        rw [(num_iff l k (by omega)).2 hv] at h
        cases h
end Go.Proofs.YtjgjoohdocjpkaaGreatDoor
namespace Go.Proofs.YtjgjoohdocjpkaaGreatDoor
open Go.RowKit Go.Deep Go.Lib Go.Shelf Go.Sort
set_option linter.unusedVariables false
theorem hid {p : Prop} (h : p) : Hid p := h

/-- what the calls read of the package-level variables. -/
structure Lay (w : World) : Prop where
  pow : Lib.TabIs Tryz.prog w "internal/strconv.uint64pow10" .u64 Lib.pow10Tab
/-- .. and the two errors. -/
structure LayE (w : World) : Prop where
  lay : Lay w
  syn : ∃ tp p, w.var? Tryz.prog "strconv.ErrSyntax" = some #[.iface tp p]
  rng : ∃ tp p, w.var? Tryz.prog "strconv.ErrRange" = some #[.iface tp p]
theorem g0 : Tryz.prog.globalNamed "internal/strconv.uint64pow10" = some 3 := by kernel_rfl
theorem g1 : Tryz.prog.globalNamed "strconv.ErrSyntax" = some 1 := by kernel_rfl
theorem g2 : Tryz.prog.globalNamed "strconv.ErrRange" = some 2 := by kernel_rfl
theorem var_lt {w : World} {n : String} {g : Nat} {cs : Array Value} (hg : Tryz.prog.globalNamed n = some g) (h : w.var? Tryz.prog n = some cs) : g < w.heap.size := by
  unfold World.var? at h
  simp only [hg, Option.bind_some] at h
  rcases Nat.lt_or_ge g w.heap.size with h' | h'
  · exact h'
  · simp [Array.getElem?_eq_none h'] at h
theorem var_below {w w' : World} {n : String} {g B : Nat} {cs : Array Value} (hg : Tryz.prog.globalNamed n = some g) (hB : g < B) (hb : Below B w w') (h : w.var? Tryz.prog n = some cs) : w'.var? Tryz.prog n = some cs := by
  unfold World.var? at h ⊢
  simp only [hg, Option.bind_some] at h ⊢
  rw [hb.block g hB]
  exact h
theorem Lay.lt {w : World} (h : Lay w) : 4 ≤ w.heap.size := var_lt g0 h.pow
theorem Lay.onB {w w' : World} {B : Nat} (h : Lay w) (hB : 4 ≤ B) (hb : Below B w w') : Lay w' := ⟨var_below g0 (by omega) hb h.pow⟩
theorem Lay.on {w w' : World} (h : Lay w) (hb : Below w.heap.size w w') : Lay w' := h.onB h.lt hb
theorem Lay.alloc {w : World} (h : Lay w) (o : Obj) : Lay (w.alloc o) := ⟨var?_alloc h.pow⟩
theorem LayE.lt {w : World} (h : LayE w) : 4 ≤ w.heap.size := by
  obtain ⟨tp, p, h2⟩ := h.rng
  obtain ⟨tq, q, h3⟩ := h.syn
  have k1 := var_lt g2 h2
  have k2 := var_lt g1 h3
  have k3 := h.lay.lt
  omega
theorem LayE.onB {w w' : World} {B : Nat} (h : LayE w) (hB : 4 ≤ B) (hb : Below B w w') : LayE w' := by
  obtain ⟨t1, p1, h1⟩ := h.syn
  obtain ⟨t2, p2, h2⟩ := h.rng
  exact ⟨h.lay.onB (by omega) hb, ⟨t1, p1, var_below g1 (by omega) hb h1⟩, ⟨t2, p2, var_below g2 (by omega) hb h2⟩⟩
theorem LayE.on {w w' : World} (h : LayE w) (hb : Below w.heap.size w w') : LayE w' := h.onB h.lt hb
theorem LayE.alloc {w : World} (h : LayE w) (o : Obj) : LayE (w.alloc o) := by
  obtain ⟨t1, p1, h1⟩ := h.syn
  obtain ⟨t2, p2, h2⟩ := h.rng
  exact ⟨h.lay.alloc o, ⟨t1, p1, var?_alloc h1⟩, ⟨t2, p2, var?_alloc h2⟩⟩

set_option maxHeartbeats 6400000 in
set_option maxRecDepth 100000 in
theorem fmtu_in (u : Nat) (hu64 : u < 18446744073709551616) (w : World) (hL : Lay w) :
    Calls Tryz.prog 85 #[.int .u64 u, .int .i64 10] w fun e w' => e = .returned (.string ⟨(Lib.decDigits u).toArray⟩) ∧ Below w.heap.size w w' := by
  by_cases hs : u < 100
  · have hcv : (convert 24 3 (.int .u64 (u : Int))).run Tryz.prog w = .ok (.int .i64 (u : Int)) w := by
      first | (go_simp; done) | (go_simp; congr 2; rw [IntKind.wrap_i64]; omega)
    go_enter Tryz.func85, Tryz.ntmps85
    go_wp2_with (go_at_call 93; refine (Tryz.internal_strconv_small u hs _).mono ?_; rintro e w' ⟨rfl, rfl⟩)
    go_ret
    exact ⟨rfl, Below.refl _ _⟩
  · have hu1 : 1 ≤ u := by omega
    have hnd20 : Lib.nDigits u ≤ 20 := Lib.nDigits_le20 u hu64
    have hal : Tryz.prog.arrayLen 134 = 24 := by kernel_rfl
    have hsl1 : ∀ W, (Instr.sliceAt 134 (.pointer (some ⟨w.heap.size, 0, none⟩)) none (some (.int .i64 (Lib.nDigits u : Int))) none).run Tryz.prog W = .ok (.slice (some ⟨w.heap.size, 0, none⟩) (Lib.nDigits u) 24) W := fun W => by
      rw [run_sliceAt_array_h W 134 ⟨w.heap.size, 0, none⟩ (by simp [Program.arrayLen, Program.elem, Tryz.underlying134]) .i64 (Lib.nDigits u : Int) (by omega) (by rw [hal]; omega)]
      go_simp
    have hH0 : Holds (fun (b : UInt8) => Value.int .u8 (b.toNat : Int)) (w.alloc (.cells Lib.zeros24 134)) w.heap.size 0 (Array.replicate (Lib.nDigits u) 0) := by
      intro j hj
      have hj' : j < Lib.nDigits u := by simpa using hj
      refine ⟨?_, World.frozen?_alloc_new _ _ _ _⟩
      rw [World.cell?_alloc_new, Lib.zeros24_at _ (by omega), getElem!_pos _ j hj]
      simp
    have hfmt := Tryz.internal_strconv_formatBase10 w.heap.size 0 24 u (Array.replicate (Lib.nDigits u) 0) (w.alloc (.cells Lib.zeros24 134)) hH0 (by rw [Array.size_replicate]; exact Lib.lt_pow_nDigits u) hu64 (by rw [Array.size_replicate]; omega)
    rw [Array.size_replicate] at hfmt
    have HH0 := Lib.hid hH0
    have HL := hid hL
    clear hH0 hal hL
    go_enter Tryz.func85, Tryz.ntmps85
    go_wp2_with (first
      | (go_at_call 94; refine (Tryz.internal_strconv_numDigits u hu1 hu64 _ (Lib.tabIs_alloc HL.out.pow _)).mono ?_; rintro e w' ⟨rfl, rfl⟩))
    go_at_call 95
    refine hfmt.mono ?_
    rintro e w' ⟨rfl, k, v', dk, rfl, hF⟩
    have hcv : (convert 22 9 (.slice (some ⟨w.heap.size, 0, none⟩) (Lib.nDigits u) 24)).run Tryz.prog ((putRow (fun (b : UInt8) => Value.int .u8 (b.toNat : Int)) (w.alloc (.cells Lib.zeros24 134)) w.heap.size 0 dk).drewN k) = .ok (.string ⟨(Lib.decDigits u).toArray⟩) ((putRow (fun (b : UInt8) => Value.int .u8 (b.toNat : Int)) (w.alloc (.cells Lib.zeros24 134)) w.heap.size 0 dk).drewN k) := by
      have h := run_convert_bytes_back (P := Tryz.prog) ((putRow (fun (b : UInt8) => Value.int .u8 (b.toNat : Int)) (w.alloc (.cells Lib.zeros24 134)) w.heap.size 0 dk).drewN k) 22 9 5 ⟨w.heap.size, 0, none⟩ 24 (Lib.decDigits u) Tryz.underlying22 Tryz.underlying5 Tryz.underlying9 (fun j hj => by
        rw [Lib.row_is_numeral hF j hj, Lib.add_plain, World.cell?_drewN]
        exact cell?_putRow (fun (b : UInt8) => Value.int .u8 (b.toNat : Int)) _ w.heap.size 0 _ dk HH0.out (by rw [hF.size, Array.size_replicate]) j (by rw [hF.size]; rw [Lib.decDigits_length] at hj; exact hj))
      rw [Lib.decDigits_length] at h
      exact h
    go_wp2
    go_ret
    obtain ⟨os, eo⟩ : ∃ os, (putRow (fun (b : UInt8) => Value.int .u8 (b.toNat : Int)) (w.alloc (.cells Lib.zeros24 134)) w.heap.size 0 dk).drewN k = grow (w.drewN k) os := by
      rw [alloc_eq_grow]
      obtain ⟨os', _, e⟩ := putRow_grow_new (fun (b : UInt8) => Value.int .u8 (b.toNat : Int)) w #[.cells Lib.zeros24 134] w.heap.size 0 dk (Nat.le_refl _)
      exact ⟨os', by rw [e]; rfl⟩
    exact ⟨rfl, by rw [eo]; exact Lib.below_grow _ _ (Nat.le_refl _) k os⟩

theorem fmtu (u : Nat) (hu64 : u < 18446744073709551616) (w : World) (hL : Lay w) :
    Calls Tryz.prog 79 #[.int .u64 u, .int .i64 10] w fun e w' => e = .returned (.string ⟨(Lib.decDigits u).toArray⟩) ∧ Below w.heap.size w w' := by
  have HL := hid hL
  clear hL
  go_enter Tryz.func79, Tryz.ntmps79
  go_wp2_with (go_at_call 85; refine (fmtu_in u hu64 _ HL.out).mono ?_; rintro e w' ⟨rfl, hb⟩)
  go_ret
  exact ⟨rfl, hb⟩
theorem decimal_any (u : Nat) (hu64 : u < 18446744073709551616) (w : World) (hL : Lay w) :
    Calls Tryz.prog 57 #[.int .u64 u] w fun e w' => e = .returned (.string ⟨(Lib.decDigits u).toArray⟩) ∧ Below w.heap.size w w' := by
  have HL := hid hL
  clear hL
  go_enter Tryz.func57, Tryz.ntmps57
  go_wp2_with (go_at_call 79; refine (fmtu u hu64 _ HL.out).mono ?_; rintro e w' ⟨rfl, hb⟩)
  go_ret
  exact ⟨rfl, hb⟩

theorem bw_below {w w1 : World} {T : TypeId} {s : ByteArray} (h : w1 = w ∨ w1 = Lib.bytesWorld w T s) : Below w.heap.size w w1 := by
  rcases h with h | h
  · rw [h]; exact Below.refl _ _
  · rw [h]; exact Lib.bytesWorld_below _ _ _
set_option maxHeartbeats 2000000 in
set_option maxRecDepth 100000 in
/-- text.number. -/
theorem number_any (l : List UInt8) (hs : l.length ≤ 281474976710656) (w : World) (hL : LayE w) :
    Calls Tryz.prog 55 #[.string ⟨l.toArray⟩] w fun e w' => e = .returned (.tuple #[.int .u64 (((num l).getD 0 : Nat) : Int), .bool (num l).isSome]) ∧ Below w.heap.size w w' := by
  have HL := hid hL
  have hsz : (⟨l.toArray⟩ : ByteArray).size = l.length := by simp [ByteArray.size]
  have hdl : (⟨l.toArray⟩ : ByteArray).data.toList = l := by simp
  clear hL
  cases h : parseUintB 64 l with
  | ok u =>
    have hu : u < 18446744073709551616 := by have := Lib.parseUintB_le h; omega
    have hP := Tryz.strconv_ParseUint_10_at64_ok ⟨l.toArray⟩ (by omega) u (by rw [hdl]; exact h) w
    have HP := hid hP
    clear hP
    by_cases he : decDigits u = l
    · have hn : num l = some u := by unfold num; rw [h]; simp [he]
      rw [hn]
      have HE := hid he
      clear hn he h hdl hsz
      go_enter Tryz.func55, Tryz.ntmps55
      go_wp2_with (first | (go_at_call 77; refine HP.out.mono ?_; rintro e w1 ⟨rfl, hb⟩; have HB := hid (bw_below hb); clear hb) | (go_at_call 57; refine (decimal_any u hu w1 (HL.out.on HB.out).lay).mono ?_; rintro e w2 ⟨rfl, hb2⟩; have HB2 := hid hb2; clear hb2; rw [HE.out]))
      all_goals (go_ret2; exact ⟨by simp, HB.out.trans (HB2.out.mono HB.out.size)⟩)
    · have hn : num l = none := by unfold num; rw [h]; simp [he]
      rw [hn]
      have hne : (decDigits u == l) = false := by simpa using he
      clear hn he h hdl hsz
      go_enter Tryz.func55, Tryz.ntmps55
      go_wp2_with (first | (go_at_call 77; refine HP.out.mono ?_; rintro e w1 ⟨rfl, hb⟩; have HB := hid (bw_below hb); clear hb) | (go_at_call 57; refine (decimal_any u hu w1 (HL.out.on HB.out).lay).mono ?_; rintro e w2 ⟨rfl, hb2⟩; have HB2 := hid hb2; clear hb2))
      all_goals (go_ret2; exact ⟨by simp, HB.out.trans (HB2.out.mono HB.out.size)⟩)
  | «syntax» =>
    have hn : num l = none := by unfold num; rw [h]
    rw [hn]
    obtain ⟨tp, p, hv⟩ := HL.out.syn
    have HP := hid (Tryz.strconv_ParseUint_10_at64_syntax_var ⟨l.toArray⟩ (by omega) (by rw [hdl]; exact h) tp p w hv)
    clear hn h hdl hsz hv
    go_enter Tryz.func55, Tryz.ntmps55
    go_wp2_with (go_at_call 77; refine HP.out.mono ?_; rintro e w1 ⟨N, rfl, -, -, hb⟩)
    all_goals (go_ret2; exact ⟨by simp, hb⟩)
  | range =>
    have hn : num l = none := by unfold num; rw [h]
    rw [hn]
    obtain ⟨tp, p, hv⟩ := HL.out.rng
    have HP := hid (Tryz.strconv_ParseUint_10_at64_range_var ⟨l.toArray⟩ (by omega) (by rw [hdl]; exact h) tp p w hv)
    clear hn h hdl hsz hv
    go_enter Tryz.func55, Tryz.ntmps55
    go_wp2_with (go_at_call 77; refine HP.out.mono ?_; rintro e w1 ⟨N, rfl, -, -, hb⟩)
    all_goals (go_ret2; exact ⟨by simp, hb⟩)
end Go.Proofs.YtjgjoohdocjpkaaGreatDoor
namespace Go.Proofs.YtjgjoohdocjpkaaGreatDoor
open Go.RowKit Go.Deep Go.Lib Go.Shelf Go.Sort
set_option linter.unusedVariables false
/-- a list of tags in memory. -/
def Ts (w : World) (q : Option Addr) (l : List (Int × List UInt8)) : Prop :=
  ∀ i (h : i < l.length), ∃ b o, q = some ⟨b, o, none⟩ ∧ w.cell? ⟨b, o + i * 2, none⟩ = some (.int .i64 (l[i]'h).1) ∧ w.cell? ⟨b, o + i * 2 + 1, none⟩ = some (.string ⟨(l[i]'h).2.toArray⟩)
theorem cell_lt {w : World} {a : Addr} {v : Value} (h : w.cell? a = some v) : a.block < w.heap.size := Lib.lt_of_cell h
theorem Ts.on {w w' : World} {q : Option Addr} {l : List (Int × List UInt8)} (h : Ts w q l) (hb : Below w.heap.size w w') : Ts w' q l := fun i hi => by
  obtain ⟨b, o, e, h0, h1⟩ := h i hi
  exact ⟨b, o, e, by rw [hb.cell (cell_lt h0)]; exact h0, by rw [hb.cell (cell_lt h1)]; exact h1⟩
def val? (l : List (Int × List UInt8)) (tag : Int) : Option (List UInt8) := (l.find? (fun p => p.1 == tag)).map (·.2)
theorem val_none {l : List (Int × List UInt8)} {tag : Int} (h : ∀ x ∈ l, x.1 ≠ tag) : val? l tag = none := by
  unfold val?
  rw [List.find?_eq_none.2 (fun x hx => by simpa using h x hx)]
  rfl
theorem val_at {l : List (Int × List UInt8)} {tag : Int} (k : Nat) (hk : k < l.length) (h : ∀ x ∈ l.take k, x.1 ≠ tag) (he : (l[k]).1 = tag) : val? l tag = some (l[k]).2 := by
  unfold val?
  conv => lhs; rw [← List.take_append_drop k l]
  rw [List.find?_append, List.find?_eq_none.2 (fun x hx => by simpa using h x hx), List.drop_eq_getElem_cons hk, List.find?_cons_of_pos (by simpa using he)]
  rfl

set_option maxHeartbeats 2000000 in
set_option maxRecDepth 100000 in
/-- text.Value. -/
theorem value_any (l : List (Int × List UInt8)) (q : Option Addr) (cap : Nat) (tag : Int) (w : World) (hl : l.length < 9223372036854775808) (hT : Ts w q l) :
    Calls Tryz.prog 54 #[.slice q l.length cap, .int .i64 tag] w fun e w' => e = .returned (.tuple #[.string ⟨((val? l tag).getD []).toArray⟩, .bool (val? l tag).isSome]) ∧ Below w.heap.size w w' := by
  have HT := hid hT
  clear hT
  go_enter Tryz.func54, Tryz.ntmps54
  go_wp2_with fail
  go_loopw [10] (fun iv wr => ∃ k : Nat, k ≤ l.length ∧ iv = .int .i64 k ∧ Hid (Below w.heap.size w wr) ∧ Hid (∀ x ∈ l.take k, x.1 ≠ tag)) (fun iv _ => l.length - (RowKit.intOf iv).toNat)
  case atStart => exact ⟨0, Nat.zero_le _, rfl, Below.refl _ _, fun x hx => by simp at hx⟩
  case round =>
    obtain ⟨k, hk, rfl, HB, HN⟩ := hrel
    by_cases hlt : k < l.length
    · obtain ⟨b, o, rfl, h0, h1⟩ := (HT.out.on HB.out) k hlt
      have hbb := cell_lt h0
      have i0 : (0 : Int) ≤ (k : Int) := by omega
      have i1 : (k : Int) < (l.length : Int) := by omega
      obtain ⟨z, s, hz⟩ : ∃ z s, l[k] = (z, s) := ⟨_, _, rfl⟩
      rw [hz] at h0 h1
      simp only at h0 h1 hbb
      have HS := hid (HB.out.size)
      by_cases ht : z = tag
      · have HV := hid (val_at k hlt HN.out (by rw [hz]; exact ht))
        rw [hz] at HV
        clear hz
        subst ht
        go_wp2
        go_ret2
        refine ⟨by rw [HV.out]; simp, ?_⟩
        repeat (first | exact HB.out | apply Below.setCell | apply Below.alloc)
        all_goals (have := HS.out; simp; try omega)
      · have HN2 := hid (show ∀ x ∈ l.take (k + 1), x.1 ≠ tag by
          rw [List.take_succ_eq_append_getElem hlt, hz]
          intro x hx
          rcases List.mem_append.1 hx with hx | hx
          · exact HN.out x hx
          · obtain rfl := List.mem_singleton.1 hx; exact ht)
        clear hz
        go_wp2
        go_roundw
        case rel => 
          refine ⟨k + 1, by omega, by go_num, ?_, HN2⟩
          refine hid ?_
          repeat (first | exact HB.out | apply Below.setCell | apply Below.alloc)
          all_goals (have := HS.out; simp; try omega)
        case measure => simp [RowKit.intOf]; omega
    · have HV := hid (val_none (by have := HN.out; rwa [List.take_of_length_le (by omega)] at this))
      go_wp2
      go_ret2
      exact ⟨by rw [HV.out]; simp, HB.out⟩

def numEnd : Option Nat → Nat × Int
  | none => (0, 31)
  | some n => (n, 0)
/-- what Number tells. -/
def numOf (l : List (Int × List UInt8)) (tag : Int) : Nat × Int :=
  match val? l tag with
  | none => (0, 30)
  | some v => numEnd (num v)
theorem val_mem {l : List (Int × List UInt8)} {tag : Int} {v : List UInt8} (h : val? l tag = some v) : ∃ x ∈ l, x.2 = v := by
  unfold val? at h
  cases hf : l.find? (fun p => p.1 == tag) with
  | none => rw [hf] at h; simp at h
  | some x => rw [hf] at h; exact ⟨x, List.mem_of_find?_eq_some hf, by simpa using h⟩

set_option maxHeartbeats 2000000 in
set_option maxRecDepth 100000 in
/-- text.Number. -/
theorem tnumber_any (l : List (Int × List UInt8)) (q : Option Addr) (cap : Nat) (tag : Int) (w : World) (hl : l.length < 9223372036854775808) (hs : ∀ x ∈ l, x.2.length ≤ 281474976710656) (hT : Ts w q l) (hL : LayE w) :
    Calls Tryz.prog 36 #[.slice q l.length cap, .int .i64 tag] w fun e w' => e = .returned (.tuple #[.int .u64 ((numOf l tag).1 : Int), .int .i64 (numOf l tag).2]) ∧ Below w.heap.size w w' := by
  have HT := hid hT
  have HL := hid hL
  have HV := hid (value_any l q cap tag w hl hT)
  clear hT hL
  cases hv : val? l tag with
  | none =>
    have e : numOf l tag = (0, 30) := by unfold numOf; rw [hv]
    rw [e]
    rw [hv] at HV
    clear e hv
    simp only [Option.getD_none, Option.isSome_none] at HV
    go_enter Tryz.func36, Tryz.ntmps36
    go_wp2_with (go_at_call 54; refine HV.out.mono ?_; rintro e w1 ⟨rfl, hb⟩)
    all_goals (go_ret2; exact ⟨by simp, hb⟩)
  | some v =>
    obtain ⟨x, hx, ex⟩ := val_mem hv
    have hlen : v.length ≤ 281474976710656 := by rw [← ex]; exact hs x hx
    have HN := hid (fun w1 (hb : Below w.heap.size w w1) => number_any v hlen w1 (HL.out.on hb))
    rw [hv] at HV
    simp only [Option.getD_some, Option.isSome_some] at HV
    cases hn : num v with
    | none =>
      have e : numOf l tag = (0, 31) := by unfold numOf; rw [hv]; simp only [hn, numEnd]
      rw [e]
      rw [hn] at HN
      simp only [Option.getD_none, Option.isSome_none] at HN
      clear e hv hn ex hx
      go_enter Tryz.func36, Tryz.ntmps36
      go_wp2_with (first | (go_at_call 54; refine HV.out.mono ?_; rintro e w1 ⟨rfl, hb⟩; have HB := hid hb; clear hb) | (go_at_call 55; refine (HN.out w1 HB.out).mono ?_; rintro e w2 ⟨rfl, hb2⟩))
      all_goals (go_ret2; exact ⟨by simp, HB.out.trans (hb2.mono HB.out.size)⟩)
    | some n =>
      have e : numOf l tag = (n, 0) := by unfold numOf; rw [hv]; simp only [hn, numEnd]
      rw [e]
      rw [hn] at HN
      simp only [Option.getD_some, Option.isSome_some] at HN
      clear e hv hn ex hx
      go_enter Tryz.func36, Tryz.ntmps36
      go_wp2_with (first | (go_at_call 54; refine HV.out.mono ?_; rintro e w1 ⟨rfl, hb⟩; have HB := hid hb; clear hb) | (go_at_call 55; refine (HN.out w1 HB.out).mono ?_; rintro e w2 ⟨rfl, hb2⟩))
      all_goals (go_ret2; exact ⟨by simp, HB.out.trans (hb2.mono HB.out.size)⟩)
end Go.Proofs.YtjgjoohdocjpkaaGreatDoor
namespace Go.Proofs.YtjgjoohdocjpkaaGreatDoor
open Go.RowKit Go.Deep Go.Lib Go.Shelf Go.Sort
set_option linter.unusedVariables false
set_option maxHeartbeats 2000000 in
set_option maxRecDepth 100000 in
/-- the document's Value. -/
theorem rvalue_any (l : List (Int × List UInt8)) (q : Option Addr) (cap : Nat) (tag : Int) (w : World) (hl : l.length < 9223372036854775808) (hT : Ts w q l) :
    Calls Tryz.prog 40 #[.slice q l.length cap, .int .i64 tag] w fun e w' => e = .returned (.tuple #[.string ⟨((val? l tag).getD []).toArray⟩, .bool (val? l tag).isSome]) ∧ w' = w := by
  have HT := hid hT
  clear hT
  go_enter Tryz.func40, Tryz.ntmps40
  go_wp2_with fail
  go_loopw [6] (fun iv wr => ∃ k : Nat, k ≤ l.length ∧ iv = .int .i64 k ∧ wr = w ∧ Hid (∀ x ∈ l.take k, x.1 ≠ tag)) (fun iv _ => l.length - (RowKit.intOf iv).toNat)
  case atStart => exact ⟨0, Nat.zero_le _, rfl, rfl, fun x hx => by simp at hx⟩
  case round =>
    obtain ⟨k, hk, rfl, rfl, HN⟩ := hrel
    by_cases hlt : k < l.length
    · obtain ⟨b, o, rfl, h0, h1⟩ := HT.out k hlt
      have i0 : (0 : Int) ≤ (k : Int) := by omega
      have i1 : (k : Int) < (l.length : Int) := by omega
      obtain ⟨z, s, hz⟩ : ∃ z s, l[k] = (z, s) := ⟨_, _, rfl⟩
      rw [hz] at h0 h1
      simp only at h0 h1
      by_cases ht : z = tag
      · have HV := hid (val_at k hlt HN.out (by rw [hz]; exact ht))
        rw [hz] at HV
        clear hz
        subst ht
        go_wp2
        go_ret2
        exact ⟨by rw [HV.out]; simp, rfl⟩
      · have HN2 := hid (show ∀ x ∈ l.take (k + 1), x.1 ≠ tag by
          rw [List.take_succ_eq_append_getElem hlt, hz]
          intro x hx
          rcases List.mem_append.1 hx with hx | hx
          · exact HN.out x hx
          · obtain rfl := List.mem_singleton.1 hx; exact ht)
        clear hz
        go_wp2
        go_roundw
        case rel => exact ⟨k + 1, by omega, by go_num, trivial, HN2⟩
        case measure => simp [RowKit.intOf]; omega
    · have HV := hid (val_none (by have := HN.out; rwa [List.take_of_length_le (by omega)] at this))
      go_wp2
      go_ret2
      exact ⟨by rw [HV.out]; simp, rfl⟩

theorem ba_at (l : List UInt8) (k : Nat) (hk : k < l.length) (h : k < (⟨l.toArray⟩ : ByteArray).size) : (⟨l.toArray⟩ : ByteArray)[k] = l[k] := by
  simp [ByteArray.getElem_eq_getElem_data]

set_option maxHeartbeats 4000000 in
set_option maxRecDepth 100000 in
/-- the document's Natural. -/
theorem natural_any (l : List UInt8) (w : World) (hl : l.length < 9223372036854775808) :
    Calls Tryz.prog 41 #[.string ⟨l.toArray⟩] w fun e w' => e = .returned (.tuple #[.int .u64 (((nat? l).getD 0 : Nat) : Int), .bool (nat? l).isSome]) ∧ w' = w := by
  by_cases hb : l.length < 1 ∨ 20 < l.length ∨ (1 < l.length ∧ l.head? = some 48)
  · have hn : nat? l = none := by unfold nat?; rw [if_pos hb]
    rw [hn]
    by_cases h1 : l.length < 1
    · obtain rfl : l = [] := List.length_eq_zero_iff.1 (by omega)
      clear hb hn
      go_enter Tryz.func41, Tryz.ntmps41
      go_wp2
      go_ret2
      exact ⟨by simp, rfl⟩
    · by_cases h2 : 20 < l.length
      · clear hb hn
        have f1 : ¬ ((l.length : Int) < 1) := by omega
        have f2 : (20 : Int) < (l.length : Int) := by omega
        go_enter Tryz.func41, Tryz.ntmps41
        go_wp2
        go_ret2
        exact ⟨by simp, rfl⟩
      · have h3 : 1 < l.length ∧ l.head? = some 48 := by rcases hb with h | h | h; omega; omega; exact h
        obtain ⟨h4, h5⟩ := h3
        obtain ⟨r, rfl⟩ : ∃ r, l = 48 :: r := by cases l; simp at h5; simp at h5; exact ⟨_, by rw [h5]⟩
        have f1 : ¬ ((((48 :: r : List UInt8)).length : Int) < 1) := by omega
        have f2 : ¬ ((20 : Int) < ((48 :: r : List UInt8).length : Int)) := by omega
        have f3 : (1 : Int) < ((48 :: r : List UInt8).length : Int) := by omega
        have hx0 : ∀ h : 0 < (⟨(48 :: r).toArray⟩ : ByteArray).size, (⟨(48 :: r).toArray⟩ : ByteArray)[0] = 48 := fun h => ba_at (48 :: r) 0 (by simp) h
        clear hb hn h5
        go_enter Tryz.func41, Tryz.ntmps41
        go_wp2
        all_goals (go_ret2; exact ⟨by simp, rfl⟩)
  · have hn : nat? l = natA 0 l := by unfold nat?; rw [if_neg hb]
    rw [hn]
    have g1 : ¬ ((l.length : Int) < 1) := by omega
    have g2 : ¬ ((20 : Int) < (l.length : Int)) := by omega
    have g3 : 1 < l.length → l.head? ≠ some 48 := by intro h1 h2; exact hb (Or.inr (Or.inr ⟨h1, h2⟩))
    clear hb hn
    have g4 : 1 < (l.length : Int) → ∃ c : UInt8, (∀ h : 0 < (⟨l.toArray⟩ : ByteArray).size, (⟨l.toArray⟩ : ByteArray)[0] = c) ∧ ((c.toNat : Int) == 48) = false := by
      intro h
      cases hq : l with
      | nil => rw [hq] at h; simp at h
      | cons c r =>
        refine ⟨c, fun h => ba_at (c :: r) 0 (by simp) h, ?_⟩
        have h2 := g3 (by omega)
        rw [hq] at h2
        have h3 : c ≠ 48 := by simpa using h2
        have h4 : c.toNat ≠ 48 := fun e => h3 (UInt8.toNat_inj.1 (by simpa using e))
        simp; omega
    clear g3
    have main : ∀ (hh : (l.length : Int) ≤ 1 ∨ ∃ c : UInt8, 1 < (l.length : Int) ∧ (∀ h : 0 < (⟨l.toArray⟩ : ByteArray).size, (⟨l.toArray⟩ : ByteArray)[0] = c) ∧ ((c.toNat : Int) == 48) = false), Calls Tryz.prog 41 #[.string ⟨l.toArray⟩] w fun e w' => e = .returned (.tuple #[.int .u64 (((natA 0 l).getD 0 : Nat) : Int), .bool (natA 0 l).isSome]) ∧ w' = w := by
      intro hh
      rcases hh with hh | ⟨c0, hbig, hc0, hc48⟩
      · go_enter Tryz.func41, Tryz.ntmps41
        go_wp2_with fail
        go_loopw [4, 5] (fun nv iv wr => ∃ (k acc : Nat), k ≤ l.length ∧ iv = .int .i64 k ∧ nv = .int .u64 acc ∧ acc < 18446744073709551616 ∧ Hid (natA 0 l = natA acc (l.drop k)) ∧ wr = w) (fun _ iv _ => l.length - (RowKit.intOf iv).toNat)
        case atStart => exact ⟨0, 0, Nat.zero_le _, rfl, rfl, by decide, hid (by simp), rfl⟩
        case round =>
          obtain ⟨k, acc, hk, rfl, rfl, hacc, HR, rfl⟩ := hrel
          by_cases hlt : k < l.length
          · obtain ⟨c, hc⟩ : ∃ c, l[k] = c := ⟨_, rfl⟩
            have hx : ∀ h : k < (⟨l.toArray⟩ : ByteArray).size, (⟨l.toArray⟩ : ByteArray)[k] = c := fun h => by rw [ba_at l k hlt h, hc]
            have hr := HR.out
            rw [List.drop_eq_getElem_cons hlt, hc, natA] at hr
            have i0 : (0 : Int) ≤ (k : Int) := by omega
            have i1 : (k : Int) < (l.length : Int) := by omega
            have hc256 : c.toNat < 256 := c.toNat_lt
            clear hc HR
            by_cases hd : Dig c
            · rw [if_neg (by simpa using hd)] at hr
              unfold Dig at hd
              obtain ⟨d, hd2⟩ : ∃ d, c.toNat = 48 + d := ⟨c.toNat - 48, by omega⟩
              have hd9 : d ≤ 9 := by omega
              rw [hd2, show 48 + d - 48 = d by omega] at hr
              by_cases ho : (18446744073709551615 - d) / 10 < acc
              · rw [if_pos ho] at hr
                have ho2 : (18446744073709551615 - (d : Int)) / 10 < (acc : Int) := by omega
                have HR := hid hr
                clear hr ho hd
                go_wp2
                go_ret2
                exact ⟨by rw [HR.out]; simp, rfl⟩
              · rw [if_neg ho] at hr
                have ho2 : (acc : Int) ≤ (18446744073709551615 - (d : Int)) / 10 := by omega
                have HR := hid hr
                clear hr ho hd
                go_wp2
                go_roundw
                case rel => exact ⟨k + 1, acc * 10 + d, by omega, by go_num, by first | rfl | (congr 1; omega), by omega, HR, trivial⟩
                case measure => simp [RowKit.intOf]; omega
            · rw [if_pos (by simpa using hd)] at hr
              have HR := hid hr
              clear hr
              by_cases h48 : c.toNat < 48
              · have h48' : (c.toNat : Int) < 48 := by omega
                clear hd
                go_wp2
                go_ret2
                exact ⟨by rw [HR.out]; simp, rfl⟩
              · have h48' : ¬ ((c.toNat : Int) < 48) := by omega
                have h57' : (57 : Int) < (c.toNat : Int) := by unfold Dig at hd; omega
                clear hd
                go_wp2
                go_ret2
                exact ⟨by rw [HR.out]; simp, rfl⟩
          · have hr := HR.out
            rw [List.drop_eq_nil_of_le (by omega), natA] at hr
            have HR := hid hr
            clear hr
            go_wp2
            go_ret2
            exact ⟨by rw [HR.out]; simp, rfl⟩
      · go_enter Tryz.func41, Tryz.ntmps41
        go_wp2_with fail
        go_loopw [4, 5] (fun nv iv wr => ∃ (k acc : Nat), k ≤ l.length ∧ iv = .int .i64 k ∧ nv = .int .u64 acc ∧ acc < 18446744073709551616 ∧ Hid (natA 0 l = natA acc (l.drop k)) ∧ wr = w) (fun _ iv _ => l.length - (RowKit.intOf iv).toNat)
        case atStart => exact ⟨0, 0, Nat.zero_le _, rfl, rfl, by decide, hid (by simp), rfl⟩
        case round =>
          obtain ⟨k, acc, hk, rfl, rfl, hacc, HR, rfl⟩ := hrel
          by_cases hlt : k < l.length
          · obtain ⟨c, hc⟩ : ∃ c, l[k] = c := ⟨_, rfl⟩
            have hx : ∀ h : k < (⟨l.toArray⟩ : ByteArray).size, (⟨l.toArray⟩ : ByteArray)[k] = c := fun h => by rw [ba_at l k hlt h, hc]
            have hr := HR.out
            rw [List.drop_eq_getElem_cons hlt, hc, natA] at hr
            have i0 : (0 : Int) ≤ (k : Int) := by omega
            have i1 : (k : Int) < (l.length : Int) := by omega
            have hc256 : c.toNat < 256 := c.toNat_lt
            clear hc HR
            by_cases hd : Dig c
            · rw [if_neg (by simpa using hd)] at hr
              unfold Dig at hd
              obtain ⟨d, hd2⟩ : ∃ d, c.toNat = 48 + d := ⟨c.toNat - 48, by omega⟩
              have hd9 : d ≤ 9 := by omega
              rw [hd2, show 48 + d - 48 = d by omega] at hr
              by_cases ho : (18446744073709551615 - d) / 10 < acc
              · rw [if_pos ho] at hr
                have ho2 : (18446744073709551615 - (d : Int)) / 10 < (acc : Int) := by omega
                have HR := hid hr
                clear hr ho hd
                go_wp2
                go_ret2
                exact ⟨by rw [HR.out]; simp, rfl⟩
              · rw [if_neg ho] at hr
                have ho2 : (acc : Int) ≤ (18446744073709551615 - (d : Int)) / 10 := by omega
                have HR := hid hr
                clear hr ho hd
                go_wp2
                go_roundw
                case rel => exact ⟨k + 1, acc * 10 + d, by omega, by go_num, by first | rfl | (congr 1; omega), by omega, HR, trivial⟩
                case measure => simp [RowKit.intOf]; omega
            · rw [if_pos (by simpa using hd)] at hr
              have HR := hid hr
              clear hr
              by_cases h48 : c.toNat < 48
              · have h48' : (c.toNat : Int) < 48 := by omega
                clear hd
                go_wp2
                go_ret2
                exact ⟨by rw [HR.out]; simp, rfl⟩
              · have h48' : ¬ ((c.toNat : Int) < 48) := by omega
                have h57' : (57 : Int) < (c.toNat : Int) := by unfold Dig at hd; omega
                clear hd
                go_wp2
                go_ret2
                exact ⟨by rw [HR.out]; simp, rfl⟩
          · have hr := HR.out
            rw [List.drop_eq_nil_of_le (by omega), natA] at hr
            have HR := hid hr
            clear hr
            go_wp2
            go_ret2
            exact ⟨by rw [HR.out]; simp, rfl⟩
    exact main (by
      by_cases h : 1 < (l.length : Int)
      · obtain ⟨c, h1, h2⟩ := g4 h
        exact Or.inr ⟨c, h, h1, h2⟩
      · exact Or.inl (by omega))

set_option maxHeartbeats 2000000 in
set_option maxRecDepth 100000 in
/-- the document's Number. -/
theorem rnumber_any (l : List (Int × List UInt8)) (q : Option Addr) (cap : Nat) (tag : Int) (w : World) (hl : l.length < 9223372036854775808) (hs : ∀ x ∈ l, x.2.length ≤ 281474976710656) (hT : Ts w q l) :
    Calls Tryz.prog 20 #[.slice q l.length cap, .int .i64 tag] w fun e w' => e = .returned (.tuple #[.int .u64 ((numOf l tag).1 : Int), .int .i64 (numOf l tag).2]) ∧ w' = w := by
  have HV := hid (rvalue_any l q cap tag w hl hT)
  clear hT
  cases hv : val? l tag with
  | none =>
    have e : numOf l tag = (0, 30) := by unfold numOf; rw [hv]
    rw [e]
    rw [hv] at HV
    clear e hv
    simp only [Option.getD_none, Option.isSome_none] at HV
    go_enter Tryz.func20, Tryz.ntmps20
    go_wp2_with (go_at_call 40; refine HV.out.mono ?_; rintro e w1 ⟨rfl, rfl⟩)
    all_goals (go_ret2; exact ⟨by simp, rfl⟩)
  | some v =>
    obtain ⟨x, hx, ex⟩ := val_mem hv
    have hlen : v.length ≤ 281474976710656 := by rw [← ex]; exact hs x hx
    have HN := hid (natural_any v w (by omega))
    rw [nat_num] at HN
    rw [hv] at HV
    simp only [Option.getD_some, Option.isSome_some] at HV
    cases hn : num v with
    | none =>
      have e : numOf l tag = (0, 31) := by unfold numOf; rw [hv]; simp only [hn, numEnd]
      rw [e]
      rw [hn] at HN
      simp only [Option.getD_none, Option.isSome_none] at HN
      clear e hv hn ex hx
      go_enter Tryz.func20, Tryz.ntmps20
      go_wp2_with (first | (go_at_call 40; refine HV.out.mono ?_; rintro e w1 ⟨rfl, rfl⟩) | (go_at_call 41; refine HN.out.mono ?_; rintro e w2 ⟨rfl, rfl⟩))
      all_goals (go_ret2; exact ⟨by simp, rfl⟩)
    | some n =>
      have e : numOf l tag = (n, 0) := by unfold numOf; rw [hv]; simp only [hn, numEnd]
      rw [e]
      rw [hn] at HN
      simp only [Option.getD_some, Option.isSome_some] at HN
      clear e hv hn ex hx
      go_enter Tryz.func20, Tryz.ntmps20
      go_wp2_with (first | (go_at_call 40; refine HV.out.mono ?_; rintro e w1 ⟨rfl, rfl⟩) | (go_at_call 41; refine HN.out.mono ?_; rintro e w2 ⟨rfl, rfl⟩))
      all_goals (go_ret2; exact ⟨by simp, rfl⟩)

end Go.Proofs.YtjgjoohdocjpkaaGreatDoor
namespace Go.Proofs.YtjgjoohdocjpkaaGreatDoor
open Go.RowKit Go.Deep
set_option linter.unusedVariables false
/-- the cells of tags. -/
def tv : List (Int × List UInt8) → List Value
  | [] => []
  | x :: l => .int .i64 x.1 :: .string ⟨x.2.toArray⟩ :: tv l
theorem tv_len : ∀ l, (tv l).length = l.length * 2
  | [] => rfl
  | x :: l => by simp only [tv, List.length_cons, tv_len l]; omega
theorem tv_append : ∀ a b, tv (a ++ b) = tv a ++ tv b
  | [], b => rfl
  | x :: a, b => by simp only [List.cons_append, tv, tv_append a b]
theorem tv_one (l : List (Int × List UInt8)) : ∀ u ∈ tv l, u.oneCell' = true := by
  induction l with
  | nil => intro u hu; simp [tv] at hu
  | cons x l ih =>
    intro u hu
    simp only [tv, List.mem_cons] at hu
    rcases hu with rfl | rfl | hu
    · rfl
    · rfl
    · exact ih u hu
theorem tv_at : ∀ (l : List (Int × List UInt8)) (i : Nat) (h : i < l.length), (tv l)[i * 2]? = some (.int .i64 (l[i]'h).1) ∧ (tv l)[i * 2 + 1]? = some (.string ⟨(l[i]'h).2.toArray⟩)
  | x :: l, 0, h => by simp [tv]
  | x :: l, i + 1, h => by
    have := tv_at l i (by simpa using h)
    simp only [tv, List.getElem_cons_succ]
    rw [show (i + 1) * 2 = i * 2 + 1 + 1 by omega, List.getElem?_cons_succ, List.getElem?_cons_succ, List.getElem?_cons_succ, List.getElem?_cons_succ]
    exact this
theorem ts_of_cells {w : World} {b o : Nat} {l : List (Int × List UInt8)} (h : ∀ j u, (tv l)[j]? = some u → w.cell? ⟨b, o + j, none⟩ = some u) : Ts w (some ⟨b, o, none⟩) l := by
  intro i hi
  obtain ⟨h0, h1⟩ := tv_at l i hi
  exact ⟨b, o, rfl, h _ _ h0, by rw [Nat.add_assoc]; exact h _ _ h1⟩
theorem ts_own {w : World} {base g c n : Nat} {l : List (Int × List UInt8)} (hn : n = l.length) (h : w.ownsRow base 65 2 (.slice (some ⟨g, 0, none⟩) n c) n (tv l)) : Ts w (some ⟨g, 0, none⟩) l := by
  subst hn
  refine ts_of_cells fun j u hj => ?_
  obtain ⟨hlt, _⟩ := List.getElem?_eq_some_iff.1 hj
  rw [tv_len] at hlt
  rw [Nat.zero_add, h.cellAt j hlt, hj]
theorem ts_take {w : World} {q : Option Addr} {l : List (Int × List UInt8)} (h : Ts w q l) (k : Nat) : Ts w q (l.take k) := by
  intro i hi
  have hi' : i < l.length := by simp at hi; omega
  obtain ⟨b, o, e, h0, h1⟩ := h i hi'
  exact ⟨b, o, e, by simpa using h0, by simpa using h1⟩
/-- a slice of tags: nil, or somewhere. -/
def Tg (w : World) (q : Option Addr) (cap : Nat) (l : List (Int × List UInt8)) : Prop := Ts w q l ∧ (q = none → l = [] ∧ cap = 0)
theorem Tg.on {w w' : World} {q : Option Addr} {cap : Nat} {l : List (Int × List UInt8)} (h : Tg w q cap l) (hb : Below w.heap.size w w') : Tg w' q cap l := ⟨h.1.on hb, h.2⟩
theorem info28all : (Tryz.prog.info? 65).map (fun i => (i.zero, i.size, i.bytes)) = some (some (.agg #[.int .i64 0, .string ⟨#[]⟩]), 2, 24) := by kernel_rfl
theorem info_parts {t : TypeId} {z : Value} {a b : Nat} (h : (Tryz.prog.info? t).map (fun i => (i.zero, i.size, i.bytes)) = some (some z, a, b)) : ∃ i, Tryz.prog.info? t = some i ∧ i.zero = some z ∧ i.size = a ∧ i.bytes = b := by
  cases hi : Tryz.prog.info? t with
  | none => rw [hi] at h; simp at h
  | some i => rw [hi] at h; simp at h; exact ⟨i, rfl, h.1, h.2.1, h.2.2⟩
end Go.Proofs.YtjgjoohdocjpkaaGreatDoor
namespace Go.Proofs.YtjgjoohdocjpkaaGreatDoor
open Go.RowKit Go.Deep Go.Lib Go.Shelf Go.Sort
set_option linter.unusedVariables false
def Up (c : UInt8) : Prop := 65 ≤ c.toNat ∧ c.toNat ≤ 90
def Lo (c : UInt8) : Prop := 97 ≤ c.toNat ∧ c.toNat ≤ 122
def Pr (c : UInt8) : Prop := 32 ≤ c.toNat ∧ c.toNat ≤ 126
def Al (c : UInt8) : Prop := Dig c ∨ Up c ∨ Lo c
instance (c : UInt8) : Decidable (Al c) := by unfold Al Up Lo; exact inferInstance
instance (c : UInt8) : Decidable (Pr c) := by unfold Pr; exact inferInstance
def KindOk (k : List UInt8) : Prop := (k.length = 1 ∨ k.length = 2) ∧ ∀ c ∈ k, Al c
instance (k : List UInt8) : Decidable (KindOk k) := by unfold KindOk; exact inferInstance
def ValOk (v : List UInt8) : Prop := v ≠ [] ∧ ∀ c ∈ v, Pr c
instance (k : List UInt8) : Decidable (ValOk k) := by unfold ValOk; exact inferInstance
def TagOk (t : Int) : Prop := 1 ≤ t ∧ t ≤ 9999 ∧ t ≠ 8 ∧ t ≠ 9 ∧ t ≠ 10 ∧ t ≠ 35
instance (t : Int) : Decidable (TagOk t) := by unfold TagOk; exact inferInstance
/-- whether a field may stand behind others. -/
def fitsE (ahead : List (Int × List UInt8)) (x : Int × List UInt8) : Int :=
  if ¬ TagOk x.1 then 30 else if (val? ahead x.1).isSome then 30 else if ¬ ValOk x.2 then 31 else 0

set_option maxHeartbeats 1000000 in
theorem isdigit_any (c : UInt8) (w : World) :
    Calls Tryz.prog 72 #[.int .u8 c.toNat] w fun e w' => e = .returned (.bool (decide (Dig c))) ∧ w' = w := by
  have hc := c.toNat_lt
  by_cases h1 : 48 ≤ c.toNat
  · have h1' : (48 : Int) ≤ (c.toNat : Int) := by omega
    have e : decide (Dig c) = decide ((c.toNat : Int) ≤ 57) := decide_eq_decide.2 ⟨fun h => by have := h.2; omega, fun h => ⟨h1, by omega⟩⟩
    rw [e]
    clear e
    go_enter Tryz.func72, Tryz.ntmps72
    go_wp2
    go_ret
    exact ⟨rfl, rfl⟩
  · have h1' : ¬ ((48 : Int) ≤ (c.toNat : Int)) := by omega
    have e : decide (Dig c) = false := decide_eq_false (fun h => h1 h.1)
    rw [e]
    clear e
    go_enter Tryz.func72, Tryz.ntmps72
    go_wp2
    go_ret
    exact ⟨rfl, rfl⟩

theorem take_all {p : UInt8 → Prop} {l : List UInt8} {k : Nat} (hk : k < l.length) (h : ∀ c ∈ l.take k, p c) (hc : p l[k]) : ∀ c ∈ l.take (k + 1), p c := by
  rw [List.take_succ_eq_append_getElem hk]
  intro x hx
  rcases List.mem_append.1 hx with hx | hx
  · exact h x hx
  · obtain rfl := List.mem_singleton.1 hx; exact hc

set_option maxHeartbeats 4000000 in
set_option maxRecDepth 100000 in
/-- text.isKind. -/
theorem iskind_any (l : List UInt8) (w : World) (hl : l.length < 9223372036854775808) :
    Calls Tryz.prog 75 #[.string ⟨l.toArray⟩] w fun e w' => e = .returned (.bool (decide (KindOk l))) ∧ w' = w := by
  by_cases h12 : l.length = 1 ∨ l.length = 2
  · rcases h12 with hlen | hlen
    · have h12 : l.length = 1 ∨ l.length = 2 := Or.inl hlen
      have H12 := hid h12
      clear h12
      go_enter Tryz.func75, Tryz.ntmps75
      go_wp2_with fail
      go_loopw [15] (fun iv wr => ∃ k : Nat, k ≤ l.length ∧ iv = .int .i64 k ∧ wr = w ∧ Hid (∀ c ∈ l.take k, Al c)) (fun iv _ => l.length - (RowKit.intOf iv).toNat)
      case atStart => exact ⟨0, Nat.zero_le _, rfl, rfl, fun x hx => by simp at hx⟩
      case round =>
        obtain ⟨k, hk, rfl, rfl, HN⟩ := hrel
        by_cases hlt : k < l.length
        · obtain ⟨c, hc⟩ : ∃ c, l[k] = c := ⟨_, rfl⟩
          have hx : ∀ h : k < (⟨l.toArray⟩ : ByteArray).size, (⟨l.toArray⟩ : ByteArray)[k] = c := fun h => by rw [ba_at l k hlt h, hc]
          have i0 : (0 : Int) ≤ (k : Int) := by omega
          have i1 : (k : Int) < (l.length : Int) := by omega
          have hc256 : c.toNat < 256 := c.toNat_lt
          have ID := hid (isdigit_any c)
          have HC := hid hc
          clear hc
          by_cases hd : Dig c
          · have e : decide (Dig c) = true := decide_eq_true hd
            rw [e] at ID
            have HN2 := hid (take_all hlt HN.out (by rw [HC.out]; exact Or.inl hd))
            clear e hd
            go_wp2_with (go_at_call 72; refine (ID.out _).mono ?_; rintro e w1 ⟨rfl, rfl⟩)
            go_roundw
            case rel => exact ⟨k + 1, by omega, by go_num, trivial, HN2⟩
            case measure => simp [RowKit.intOf]; omega
          · have e : decide (Dig c) = false := decide_eq_false hd
            rw [e] at ID
            clear e
            by_cases hu : Up c
            · have HN2 := hid (take_all hlt HN.out (by rw [HC.out]; exact Or.inr (Or.inl hu)))
              unfold Up at hu
              have u1 : (65 : Int) ≤ (c.toNat : Int) := by omega
              have u2 : (c.toNat : Int) ≤ 90 := by omega
              clear hu hd
              go_wp2_with (go_at_call 72; refine (ID.out _).mono ?_; rintro e w1 ⟨rfl, rfl⟩)
              go_roundw
              case rel => exact ⟨k + 1, by omega, by go_num, trivial, HN2⟩
              case measure => simp [RowKit.intOf]; omega
            · by_cases ho : Lo c
              · have HN2 := hid (take_all hlt HN.out (by rw [HC.out]; exact Or.inr (Or.inr ho)))
                unfold Lo at ho
                have u1 : (65 : Int) ≤ (c.toNat : Int) := by omega
                have u2 : ¬ ((c.toNat : Int) ≤ 90) := by omega
                have u3 : (97 : Int) ≤ (c.toNat : Int) := by omega
                have u4 : (c.toNat : Int) ≤ 122 := by omega
                clear hu hd ho
                go_wp2_with (go_at_call 72; refine (ID.out _).mono ?_; rintro e w1 ⟨rfl, rfl⟩)
                go_roundw
                case rel => exact ⟨k + 1, by omega, by go_num, trivial, HN2⟩
                case measure => simp [RowKit.intOf]; omega
              · have HF := hid (show decide (KindOk l) = false by
                  refine decide_eq_false (fun h => ?_)
                  have := h.2 c (by rw [← HC.out]; exact List.getElem_mem hlt)
                  rcases this with h | h | h
                  · exact hd h
                  · exact hu h
                  · exact ho h)
                unfold Up at hu
                unfold Lo at ho
                have v1 : ¬ ((65 : Int) ≤ (c.toNat : Int) ∧ (c.toNat : Int) ≤ 90) := by omega
                have v2 : ¬ ((97 : Int) ≤ (c.toNat : Int) ∧ (c.toNat : Int) ≤ 122) := by omega
                clear hu hd ho
                by_cases w1 : (65 : Int) ≤ (c.toNat : Int)
                · have w2 : ¬ ((c.toNat : Int) ≤ 90) := fun h => v1 ⟨w1, h⟩
                  by_cases w3 : (97 : Int) ≤ (c.toNat : Int)
                  · have w4 : ¬ ((c.toNat : Int) ≤ 122) := fun h => v2 ⟨w3, h⟩
                    clear v1 v2
                    go_wp2_with (go_at_call 72; refine (ID.out _).mono ?_; rintro e w1 ⟨rfl, rfl⟩)
                    go_ret
                    exact ⟨by rw [HF.out]; rfl, rfl⟩
                  · clear v1 v2
                    go_wp2_with (go_at_call 72; refine (ID.out _).mono ?_; rintro e w1 ⟨rfl, rfl⟩)
                    go_ret
                    exact ⟨by rw [HF.out]; rfl, rfl⟩
                · have w3 : ¬ ((97 : Int) ≤ (c.toNat : Int)) := by omega
                  clear v1 v2
                  go_wp2_with (go_at_call 72; refine (ID.out _).mono ?_; rintro e w1 ⟨rfl, rfl⟩)
                  go_ret
                  exact ⟨by rw [HF.out]; rfl, rfl⟩
        · have HF := hid (show decide (KindOk l) = true by
            have := HN.out
            rw [List.take_of_length_le (by omega)] at this
            exact decide_eq_true ⟨H12.out, this⟩)
          go_wp2
          go_ret
          exact ⟨by rw [HF.out]; rfl, rfl⟩
    · have h12 : l.length = 1 ∨ l.length = 2 := Or.inr hlen
      have H12 := hid h12
      clear h12
      go_enter Tryz.func75, Tryz.ntmps75
      go_wp2_with fail
      go_loopw [15] (fun iv wr => ∃ k : Nat, k ≤ l.length ∧ iv = .int .i64 k ∧ wr = w ∧ Hid (∀ c ∈ l.take k, Al c)) (fun iv _ => l.length - (RowKit.intOf iv).toNat)
      case atStart => exact ⟨0, Nat.zero_le _, rfl, rfl, fun x hx => by simp at hx⟩
      case round =>
        obtain ⟨k, hk, rfl, rfl, HN⟩ := hrel
        by_cases hlt : k < l.length
        · obtain ⟨c, hc⟩ : ∃ c, l[k] = c := ⟨_, rfl⟩
          have hx : ∀ h : k < (⟨l.toArray⟩ : ByteArray).size, (⟨l.toArray⟩ : ByteArray)[k] = c := fun h => by rw [ba_at l k hlt h, hc]
          have i0 : (0 : Int) ≤ (k : Int) := by omega
          have i1 : (k : Int) < (l.length : Int) := by omega
          have hc256 : c.toNat < 256 := c.toNat_lt
          have ID := hid (isdigit_any c)
          have HC := hid hc
          clear hc
          by_cases hd : Dig c
          · have e : decide (Dig c) = true := decide_eq_true hd
            rw [e] at ID
            have HN2 := hid (take_all hlt HN.out (by rw [HC.out]; exact Or.inl hd))
            clear e hd
            go_wp2_with (go_at_call 72; refine (ID.out _).mono ?_; rintro e w1 ⟨rfl, rfl⟩)
            go_roundw
            case rel => exact ⟨k + 1, by omega, by go_num, trivial, HN2⟩
            case measure => simp [RowKit.intOf]; omega
          · have e : decide (Dig c) = false := decide_eq_false hd
            rw [e] at ID
            clear e
            by_cases hu : Up c
            · have HN2 := hid (take_all hlt HN.out (by rw [HC.out]; exact Or.inr (Or.inl hu)))
              unfold Up at hu
              have u1 : (65 : Int) ≤ (c.toNat : Int) := by omega
              have u2 : (c.toNat : Int) ≤ 90 := by omega
              clear hu hd
              go_wp2_with (go_at_call 72; refine (ID.out _).mono ?_; rintro e w1 ⟨rfl, rfl⟩)
              go_roundw
              case rel => exact ⟨k + 1, by omega, by go_num, trivial, HN2⟩
              case measure => simp [RowKit.intOf]; omega
            · by_cases ho : Lo c
              · have HN2 := hid (take_all hlt HN.out (by rw [HC.out]; exact Or.inr (Or.inr ho)))
                unfold Lo at ho
                have u1 : (65 : Int) ≤ (c.toNat : Int) := by omega
                have u2 : ¬ ((c.toNat : Int) ≤ 90) := by omega
                have u3 : (97 : Int) ≤ (c.toNat : Int) := by omega
                have u4 : (c.toNat : Int) ≤ 122 := by omega
                clear hu hd ho
                go_wp2_with (go_at_call 72; refine (ID.out _).mono ?_; rintro e w1 ⟨rfl, rfl⟩)
                go_roundw
                case rel => exact ⟨k + 1, by omega, by go_num, trivial, HN2⟩
                case measure => simp [RowKit.intOf]; omega
              · have HF := hid (show decide (KindOk l) = false by
                  refine decide_eq_false (fun h => ?_)
                  have := h.2 c (by rw [← HC.out]; exact List.getElem_mem hlt)
                  rcases this with h | h | h
                  · exact hd h
                  · exact hu h
                  · exact ho h)
                unfold Up at hu
                unfold Lo at ho
                have v1 : ¬ ((65 : Int) ≤ (c.toNat : Int) ∧ (c.toNat : Int) ≤ 90) := by omega
                have v2 : ¬ ((97 : Int) ≤ (c.toNat : Int) ∧ (c.toNat : Int) ≤ 122) := by omega
                clear hu hd ho
                by_cases w1 : (65 : Int) ≤ (c.toNat : Int)
                · have w2 : ¬ ((c.toNat : Int) ≤ 90) := fun h => v1 ⟨w1, h⟩
                  by_cases w3 : (97 : Int) ≤ (c.toNat : Int)
                  · have w4 : ¬ ((c.toNat : Int) ≤ 122) := fun h => v2 ⟨w3, h⟩
                    clear v1 v2
                    go_wp2_with (go_at_call 72; refine (ID.out _).mono ?_; rintro e w1 ⟨rfl, rfl⟩)
                    go_ret
                    exact ⟨by rw [HF.out]; rfl, rfl⟩
                  · clear v1 v2
                    go_wp2_with (go_at_call 72; refine (ID.out _).mono ?_; rintro e w1 ⟨rfl, rfl⟩)
                    go_ret
                    exact ⟨by rw [HF.out]; rfl, rfl⟩
                · have w3 : ¬ ((97 : Int) ≤ (c.toNat : Int)) := by omega
                  clear v1 v2
                  go_wp2_with (go_at_call 72; refine (ID.out _).mono ?_; rintro e w1 ⟨rfl, rfl⟩)
                  go_ret
                  exact ⟨by rw [HF.out]; rfl, rfl⟩
        · have HF := hid (show decide (KindOk l) = true by
            have := HN.out
            rw [List.take_of_length_le (by omega)] at this
            exact decide_eq_true ⟨H12.out, this⟩)
          go_wp2
          go_ret
          exact ⟨by rw [HF.out]; rfl, rfl⟩
  · have e : decide (KindOk l) = false := decide_eq_false (fun h => h12 h.1)
    rw [e]
    have f1 : ((l.length : Int) != 1) = true := by simp; omega
    have f2 : ((l.length : Int) != 2) = true := by simp; omega
    clear e
    go_enter Tryz.func75, Tryz.ntmps75
    go_wp2
    go_ret
    exact ⟨rfl, rfl⟩
end Go.Proofs.YtjgjoohdocjpkaaGreatDoor
namespace Go.Proofs.YtjgjoohdocjpkaaGreatDoor
open Go.RowKit Go.Deep Go.Lib Go.Shelf Go.Sort
set_option linter.unusedVariables false
theorem btr {B : Nat} {a b c : World} (h : Below B a b) (hB : B ≤ b.heap.size) (k : Below b.heap.size b c) : Below B a c := h.trans (k.mono hB)
theorem btr' {a b c : World} (h : Below a.heap.size a b) (k : Below b.heap.size b c) : Below a.heap.size a c := btr h h.size k
theorem ball (w : World) (o : Obj) : Below w.heap.size w (w.alloc o) := (Below.refl _ _).alloc (Nat.le_refl _) _

end Go.Proofs.YtjgjoohdocjpkaaGreatDoor
namespace Go.Proofs.YtjgjoohdocjpkaaGreatDoor
open Go.RowKit Go.Deep Go.Lib Go.Shelf Go.Sort
set_option linter.unusedVariables false
set_option maxHeartbeats 4000000 in
set_option maxRecDepth 100000 in
/-- text.isValue. -/
theorem isvalue_any (l : List UInt8) (w : World) (hl : l.length < 9223372036854775808) :
    Calls Tryz.prog 76 #[.string ⟨l.toArray⟩] w fun e w' => e = .returned (.bool (decide (ValOk l))) ∧ w' = w := by
  go_enter Tryz.func76, Tryz.ntmps76
  go_wp2_with fail
  go_loopw [7] (fun iv wr => ∃ k : Nat, k ≤ l.length ∧ iv = .int .i64 k ∧ wr = w ∧ Hid (∀ c ∈ l.take k, Pr c)) (fun iv _ => l.length - (RowKit.intOf iv).toNat)
  case atStart => exact ⟨0, Nat.zero_le _, rfl, rfl, fun x hx => by simp at hx⟩
  case round =>
    obtain ⟨k, hk, rfl, rfl, HN⟩ := hrel
    by_cases hlt : k < l.length
    · obtain ⟨c, hc⟩ : ∃ c, l[k] = c := ⟨_, rfl⟩
      have hx : ∀ h : k < (⟨l.toArray⟩ : ByteArray).size, (⟨l.toArray⟩ : ByteArray)[k] = c := fun h => by rw [ba_at l k hlt h, hc]
      have i0 : (0 : Int) ≤ (k : Int) := by omega
      have i1 : (k : Int) < (l.length : Int) := by omega
      have hc256 : c.toNat < 256 := c.toNat_lt
      have HC := hid hc
      clear hc
      by_cases hp : Pr c
      · have HN2 := hid (take_all hlt HN.out (by rw [HC.out]; exact hp))
        unfold Pr at hp
        have u1 : ¬ ((c.toNat : Int) < 32) := by omega
        have u2 : ¬ ((126 : Int) < (c.toNat : Int)) := by omega
        clear hp
        go_wp2
        go_roundw
        case rel => exact ⟨k + 1, by omega, by go_num, trivial, HN2⟩
        case measure => simp [RowKit.intOf]; omega
      · have HF := hid (show decide (ValOk l) = false from decide_eq_false (fun h => hp (h.2 c (by rw [← HC.out]; exact List.getElem_mem hlt))))
        unfold Pr at hp
        by_cases u1 : (c.toNat : Int) < 32
        · clear hp
          go_wp2
          go_ret
          exact ⟨by rw [HF.out]; rfl, rfl⟩
        · have u2 : (126 : Int) < (c.toNat : Int) := by omega
          clear hp
          go_wp2
          go_ret
          exact ⟨by rw [HF.out]; rfl, rfl⟩
    · have hall := HN.out
      rw [List.take_of_length_le (by omega)] at hall
      by_cases h0 : l = []
      · subst h0
        have HF := hid (show decide (ValOk []) = false from decide_eq_false (fun h => h.1 rfl))
        clear hall
        go_wp2
        go_ret
        exact ⟨by rw [HF.out]; rfl, rfl⟩
      · have HF := hid (show decide (ValOk l) = true from decide_eq_true ⟨h0, hall⟩)
        have hz : (l == []) = false := by simpa using h0
        clear hall h0
        go_wp2
        go_ret
        exact ⟨by rw [HF.out]; first | rfl | simp [hz], rfl⟩

theorem cell_new {w w1 : World} {cs : Array Value} {T : TypeId} (j : Nat) {u : Value} (hb : Below (w.alloc (.cells cs T)).heap.size (w.alloc (.cells cs T)) w1) (h : cs[j]? = some u) : w1.cell? ⟨w.heap.size, j, none⟩ = some u := by
  rw [hb.cell (by simp)]
  rw [World.cell?_alloc_new]
  exact h

set_option maxHeartbeats 4000000 in
set_option maxRecDepth 100000 in
/-- text.fits. -/
theorem fits_any (l : List (Int × List UInt8)) (q : Option Addr) (cap : Nat) (t : Int) (v : List UInt8) (w : World) (hl : l.length < 9223372036854775808) (hv : v.length < 9223372036854775808) (hT : Ts w q l) :
    Calls Tryz.prog 53 #[.slice q l.length cap, .agg #[.int .i64 t, .string ⟨v.toArray⟩]] w fun e w' => e = .returned (.int .i64 (fitsE l (t, v))) ∧ Below w.heap.size w w' := by
  have HT := hid (hT.on (ball w (.cells #[.int .i64 t, .string ⟨v.toArray⟩] 65)))
  have HB0 := hid (ball w (.cells #[.int .i64 t, .string ⟨v.toArray⟩] 65))
  clear hT
  by_cases ht : TagOk t
  · obtain ⟨t1, t2, t3, t4, t5, t6⟩ := ht
    have ht : TagOk t := ⟨t1, t2, t3, t4, t5, t6⟩
    have u1 : ¬ (t < 1) := by omega
    have u2 : ¬ (9999 < t) := by omega
    have u3 : (t == 8) = false := by simpa using t3
    have u4 : (t == 9) = false := by simpa using t4
    have u5 : (t == 10) = false := by simpa using t5
    have u6 : (t == 35) = false := by simpa using t6
    have VA := hid (value_any l q cap t _ hl HT.out)
    cases hs : (val? l t).isSome with
    | true =>
      have e : fitsE l (t, v) = 30 := by unfold fitsE; rw [if_neg (by simpa using ht), if_pos hs]
      rw [e]
      rw [hs] at VA
      clear e hs ht t3 t4 t5 t6
      go_enter Tryz.func53, Tryz.ntmps53
      go_wp2_with (go_at_call 54; refine VA.out.mono ?_; rintro e w1 ⟨rfl, hb⟩; have HB1 := hid (btr' HB0.out hb); clear hb)
      go_ret
      exact ⟨rfl, HB1.out⟩
    | false =>
      rw [hs] at VA
      have hN : val? l t = none := by cases h : val? l t; rfl; rw [h] at hs; cases hs
      rw [hN] at VA
      simp only [Option.getD_none] at VA
      by_cases hv2 : ValOk v
      · have e : fitsE l (t, v) = 0 := by unfold fitsE; rw [if_neg (by simpa using ht), if_neg (by rw [hs]; decide), if_neg (by simpa using hv2)]
        rw [e]
        have IV := hid (fun w => isvalue_any v w hv)
        rw [decide_eq_true hv2] at IV
        clear e hs ht t3 t4 t5 t6 hv2 hN
        go_enter Tryz.func53, Tryz.ntmps53
        go_wp2_with (first | (go_at_call 54; refine VA.out.mono ?_; rintro e w1 ⟨rfl, hb⟩; have HB1 := hid (btr' HB0.out hb); have hc1 := cell_new 1 hb rfl; clear hb) | (go_at_call 76; refine (IV.out _).mono ?_; rintro e w2 ⟨rfl, rfl⟩))
        go_ret
        exact ⟨rfl, HB1.out⟩
      · have e : fitsE l (t, v) = 31 := by unfold fitsE; rw [if_neg (by simpa using ht), if_neg (by rw [hs]; decide), if_pos (by simpa using hv2)]
        rw [e]
        have IV := hid (fun w => isvalue_any v w hv)
        rw [decide_eq_false hv2] at IV
        clear e hs ht t3 t4 t5 t6 hv2 hN
        go_enter Tryz.func53, Tryz.ntmps53
        go_wp2_with (first | (go_at_call 54; refine VA.out.mono ?_; rintro e w1 ⟨rfl, hb⟩; have HB1 := hid (btr' HB0.out hb); have hc1 := cell_new 1 hb rfl; clear hb) | (go_at_call 76; refine (IV.out _).mono ?_; rintro e w2 ⟨rfl, rfl⟩))
        go_ret
        exact ⟨rfl, HB1.out⟩
  · have e : fitsE l (t, v) = 30 := by unfold fitsE; rw [if_pos (by simpa using ht)]
    rw [e]
    clear e
    by_cases u1 : t < 1
    · go_enter Tryz.func53, Tryz.ntmps53
      go_wp2
      go_ret
      exact ⟨rfl, HB0.out⟩
    · by_cases u2 : 9999 < t
      · go_enter Tryz.func53, Tryz.ntmps53
        go_wp2
        go_ret
        exact ⟨rfl, HB0.out⟩
      · have h4 : t = 8 ∨ t = 9 ∨ t = 35 ∨ t = 10 := by unfold TagOk at ht; omega
        clear ht u1 u2
        rcases h4 with rfl | rfl | rfl | rfl
        · go_enter Tryz.func53, Tryz.ntmps53
          go_wp2
          go_ret
          exact ⟨rfl, HB0.out⟩
        · go_enter Tryz.func53, Tryz.ntmps53
          go_wp2
          go_ret
          exact ⟨rfl, HB0.out⟩
        · go_enter Tryz.func53, Tryz.ntmps53
          go_wp2
          go_ret
          exact ⟨rfl, HB0.out⟩
        · go_enter Tryz.func53, Tryz.ntmps53
          go_wp2
          go_ret
          exact ⟨rfl, HB0.out⟩
end Go.Proofs.YtjgjoohdocjpkaaGreatDoor
