/-
  TexB
-/
import Derived.Test.YtlhbgaiiehljpaaGreatGBy
import Derived.Test.YtlhbgaiiehljpaaGreatGBx
namespace Go.Proofs.YtlhbgaiiehljpaaGreat
open Go.RowKit Go.Deep MonM TexM
set_option linter.unusedVariables false
theorem p39 : p10 39 = 1000000000000000000000000000000000000000 := by decide
theorem k_le (n : Int) (h0 : 0 ≤ n) (h1 : n ≤ 170141183460469231731687303715884105727) (k : Nat) (h : n / p10 k ≠ 0) : k ≤ 38 := by
 by_cases hk : k ≤ 38
 ·exact hk
 ·have h2 := p10_le 39 k (by omega)
  rw [p39] at h2
  exact absurd ((div_zero_iff n h0 k).2 (by omega)) h
set_option maxHeartbeats 4000000 in
set_option maxRecDepth 100000 in
theorem text_walk (m : Int) (w : World) (hm : Amt m) :
  Calls Tryz.prog 18 #[mv m] w fun e w' => (∃ xs, IsText m xs ∧ e = .returned (.string (strOfNums xs))) ∧ Below w.heap.size w w' := by
 obtain ⟨n, hn⟩ : ∃ n, absI m = n := ⟨_, rfl⟩
 have n0 : 0 ≤ n := by rw [← hn]; unfold absI; split <;> omega
 have n1 : n ≤ 170141183460469231731687303715884105727 := by rw [← hn]; obtain ⟨a, b⟩ := hm; unfold absI; split <;> omega
 have S := hid (fun w => msize_any m w hm)
 rw [hn] at S
 have N := hid (fun w => sign_any m w hm)
 have HN := hid hn
 have HM := hid hm
 clear hn hm
 unfold mv at *
 go_enter Tryz.func18, Tryz.ntmps18
 go_wp2_with fail
 refine (S.out _).mono ?_
 rintro e w1 ⟨rfl, hb⟩
 have ST := hid (st_start w w1 m n _ rfl hb)
 clear hb
 obtain ⟨Rb, hRb⟩ : ∃ Rb, w1.heap.size = Rb := ⟨_, rfl⟩
 rw [hRb] at ST
 go_wp2_with fail
 clear hRb
 go_loopw [4, 6, 7] (fun av kv _ wr => ∃ (a k : Nat), av = .int .i64 a ∧ kv = .int .i64 k ∧ k ≤ 39 ∧ (k ≤ 3 ∨ n / p10 (k - 1) ≠ 0) ∧ Hid (St w Rb m (n / p10 k) (suf n k) a wr)) (fun _ kv _ _ => 40 - (intOf kv).toNat)
 case atStart => exact ⟨41, 0, rfl, rfl, by decide, Or.inl (by decide), by rw [show n / p10 0 = n from by simp [p10]]; exact ST⟩
 case round =>
  clear ST S
  obtain ⟨a, k, rfl, rfl, hk, hk2, HS⟩ := hrel
  have hlen := HS.out.2.1
  rw [suf_len] at hlen
  have v0 : 0 ≤ n / p10 k := Int.ediv_nonneg n0 (Int.le_of_lt (p10_pos k))
  have v1 : n / p10 k ≤ n := Int.ediv_le_self _ n0
  have hst := div_step n k
  obtain ⟨v, hv⟩ : ∃ v, n / p10 k = v := ⟨_, rfl⟩
  have HK := hid hk2
  have HV := hid hv
  rw [hv] at HS v0 v1 hst
  have HT := hid hst
  have HL := hid hlen
  clear hlen hv hst hk2
  have ne1 : ¬ (Rb = w.heap.size + 1) := by have := HS.out.2.2.2.2.2; omega
  have ne2 : ¬ (w.heap.size + 1 = Rb) := by omega
  have r0 := HS.out.2.2.1.c0
  have r1 := HS.out.2.2.1.c1
  have D := hid (fun w => lastDigit_any v w v0 (by omega))
  by_cases h2 : k < 2
  ·obtain ⟨b, rfl⟩ : ∃ b, a = b + 1 := ⟨a - 1, by have := HL.out; rw [if_pos (by omega)] at this; omega⟩
   have hb41 : b < 41 := by have := HL.out; rw [if_pos (by omega)] at this; omega
   have z2 : ((k : Int) == 2) = false := by simp; omega
   have z3 : (k : Int) < 3 := by omega
   go_wp2_with fail
   refine (D.out _).mono ?_
   rintro e w2 ⟨rfl, hb⟩
   have HS2 := hid (HS.out.to hb)
   clear hb r0 r1
   obtain ⟨y, cy, fy⟩ := HS2.out.ask b hb41
   have r0 := HS2.out.2.2.1.c0
   have r1 := HS2.out.2.2.1.c1
   have g0 := HS2.out.2.2.1.f0
   have g1 := HS2.out.2.2.1.f1
   have HF := hid ((HS2.out.setR (v / 10)).put (48 + v % 10))
   go_wp2
   go_roundw
   case rel => exact ⟨b, k + 1, rfl, by go_num, by omega, Or.inl (by omega), by
    show St w Rb m (n / p10 (k + 1)) (suf n (k + 1)) b _
    rw [← HT.out]
    simp only [suf]
    rw [if_neg (by omega), HV.out]
    exact HF.out⟩
   case measure => simp [intOf]; omega
  ·by_cases h3 : k = 2
   ·subst h3
    obtain ⟨b, rfl⟩ : ∃ b, a = b + 1 + 1 := ⟨a - 2, by have := HL.out; rw [if_pos (by omega)] at this; omega⟩
    have hb41 : b < 41 := by have := HL.out; rw [if_pos (by omega)] at this; omega
    have hb42 : b + 1 < 41 := by have := HL.out; rw [if_pos (by omega)] at this; omega
    obtain ⟨y1, cy1, fy1⟩ := HS.out.ask (b + 1) hb42
    have HS1 := hid (HS.out.put 46)
    have HR0 := hid HS1.out.2.2.1.c0
    have HR1 := hid HS1.out.2.2.1.c1
    go_wp2_with fail
    refine (D.out _).mono ?_
    rintro e w2 ⟨rfl, hb⟩
    have HS2 := hid (HS1.out.to hb)
    clear hb r0 r1
    obtain ⟨y, cy, fy⟩ := HS2.out.ask b hb41
    have r0 := HS2.out.2.2.1.c0
    have r1 := HS2.out.2.2.1.c1
    have g0 := HS2.out.2.2.1.f0
    have g1 := HS2.out.2.2.1.f1
    have HF := hid ((HS2.out.setR (v / 10)).put (48 + v % 10))
    go_wp2
    go_roundw
    case rel => exact ⟨b, 2 + 1, rfl, by go_num, by omega, Or.inl (by omega), by
     show St w Rb m (n / p10 (2 + 1)) ((48 + n / p10 2 % 10) :: (46 :: suf n 2)) b _
     rw [← HT.out, HV.out]
     exact HF.out⟩
    case measure => simp [intOf]
   ·have z2 : ((k : Int) == 2) = false := by simp; omega
    have z3 : decide ((k : Int) < 3) = false := by simp; omega
    have hl := HL.out
    rw [if_neg (by omega)] at hl
    by_cases hv0 : v = 0
    ·have C := hid (fun w => sign_any 0 w (by unfold Amt; omega))
     have es : sgn 0 = 0 := rfl
     rw [es] at C
     subst hv0
     clear es D
     go_wp2_with fail
     refine (C.out _).mono ?_
     rintro e w3 ⟨rfl, hb⟩
     have HS3 := hid (HS.out.to hb)
     clear hb r0 r1
     have r0 := HS3.out.2.2.2.1.c0
     have r1 := HS3.out.2.2.2.1.c1
     have HF := hid (show Fin10 n k from ⟨by omega, HV.out, by rcases HK.out with h | h; left; omega; right; exact h⟩)
     go_wp2_with fail
     refine (N.out _).mono ?_
     rintro e w4 ⟨rfl, hb⟩
     have HS4 := hid (HS3.out.to hb)
     clear hb r0 r1
     by_cases hm0 : m < 0
     ·have es : sgn m = -1 := if_pos hm0
      rw [es]
      obtain ⟨b, rfl⟩ : ∃ b, a = b + 1 := ⟨a - 1, by omega⟩
      obtain ⟨y, cy, fy⟩ := HS4.out.ask b (by omega)
      have HS5 := hid (HS4.out.put 45)
      have hcv := HS5.out.conv (41 - b) (41 - b) (by have := HS5.out.2.1; omega)
      have HT2 := hid (show IsText m (45 :: suf n k) from ⟨k, by rw [if_pos hm0]; have h := HN.out; unfold absI at h; rw [if_pos hm0] at h; rw [h]; exact HF.out, by rw [if_pos hm0, if_pos hm0]; have h := HN.out; unfold absI at h; rw [if_pos hm0] at h; rw [h]; rfl⟩)
      clear es
      have b1 : (b : Int) ≤ 41 := by omega
      go_wp2
      go_ret
      exact ⟨⟨_, HT2.out, rfl⟩, HS5.out.2.2.2.2.1⟩
     ·have es : 0 ≤ sgn m := by unfold sgn; rw [if_neg hm0]; split <;> decide
      generalize sgn m = s at *
      have hcv := HS4.out.conv (41 - a) (41 - a) (by have := HS4.out.2.1; omega)
      have HT2 := hid (show IsText m (suf n k) from ⟨k, by rw [if_neg hm0]; have h := HN.out; unfold absI at h; rw [if_neg hm0] at h; rw [h]; exact HF.out, by rw [if_neg hm0, if_neg hm0]; have h := HN.out; unfold absI at h; rw [if_neg hm0] at h; rw [h]; rfl⟩)
      have b1 : (a : Int) ≤ 41 := by omega
      go_wp2
      go_ret
      exact ⟨⟨_, HT2.out, rfl⟩, HS4.out.2.2.2.2.1⟩
    ·have hk38 := k_le n n0 n1 k (by rw [HV.out]; exact hv0)
     obtain ⟨b, rfl⟩ : ∃ b, a = b + 1 := ⟨a - 1, by omega⟩
     have hb41 : b < 41 := by omega
     have C := hid (fun w => sign_any v w (by unfold Amt; omega))
     have es : sgn v = 1 := by unfold sgn; rw [if_neg (by omega), if_pos (by omega)]
     rw [es] at C
     clear es hl
     go_wp2_with fail
     refine (C.out _).mono ?_
     rintro e w3 ⟨rfl, hb⟩
     have HS1 := hid (HS.out.to hb)
     clear hb r0 r1
     have r0 := HS1.out.2.2.1.c0
     have r1 := HS1.out.2.2.1.c1
     go_wp2_with fail
     refine (D.out _).mono ?_
     rintro e w2 ⟨rfl, hb⟩
     have HS2 := hid (HS1.out.to hb)
     clear hb r0 r1
     obtain ⟨y, cy, fy⟩ := HS2.out.ask b hb41
     have r0 := HS2.out.2.2.1.c0
     have r1 := HS2.out.2.2.1.c1
     have g0 := HS2.out.2.2.1.f0
     have g1 := HS2.out.2.2.1.f1
     have HF := hid ((HS2.out.setR (v / 10)).put (48 + v % 10))
     go_wp2
     go_roundw
     case rel => exact ⟨b, k + 1, rfl, by go_num, by omega, Or.inr (by rw [Nat.add_sub_cancel, HV.out]; exact hv0), by
      show St w Rb m (n / p10 (k + 1)) (suf n (k + 1)) b _
      rw [← HT.out]
      simp only [suf]
      rw [if_neg h3, HV.out]
      exact HF.out⟩
     case measure => simp [intOf]; omega
end Go.Proofs.YtlhbgaiiehljpaaGreat
namespace Go.Proofs.YtlhbgaiiehljpaaGreat.Ac
open Go.RowKit Go.Deep Go.Maps MonM TexM Go.Proofs.YtlhbgaiiehljpaaGreat
set_option linter.unusedVariables false
set_option linter.unusedSimpArgs false
set_option maxHeartbeats 4000000
set_option maxRecDepth 100000
theorem text10 (U : World) : Calls Tryz.prog 18 #[mv (-1000)] U fun e w' => e = .returned (.string ⟨#[45, 49, 48, 46, 48, 48]⟩) ∧ Below U.heap.size U w' := by
 refine (text_walk (-1000) U ⟨by decide, by decide⟩).mono ?_
 rintro e w' ⟨⟨xs, h, rfl⟩, hb⟩
 have h2 : IsText (-1000) [45, 49, 48, 46, 48, 48] := ⟨4, ⟨by decide, by decide, .inr (by decide)⟩, by decide⟩
 rw [isText_unique _ _ _ h h2]
 exact ⟨rfl, hb⟩
theorem por400 (U : World) : Calls Tryz.prog 71 #[mv 4000, .int .u32 1, .int .u32 10, .int .i64 1] U fun e w' => e = .returned (.tuple #[mv 400, .int .i64 0]) ∧ Below U.heap.size U w' := by
 have D := fun w => divisible_ok 10 1 w (Or.inr (Or.inl rfl)) rfl
 have S := fun w => msize_any 4000 w ⟨by decide, by decide⟩
 rw [show absI 4000 = 4000 from rfl] at S
 have C : ∀ w : World, Calls Tryz.prog 86 #[mv 4000, .int .u64 1, .int .u64 10] w fun e w' => e = .returned (.tuple #[mv 400, .int .u64 0, .bool true]) ∧ Below w.heap.size w w' := by
  intro w
  refine (scaled_any 4000 1 10 w (by decide) (by decide) (by decide) (by decide) (by decide) (by decide)).mono ?_
  rintro e w' ⟨h | h, hb⟩
  ·exact ⟨h.2, hb⟩
  ·exact absurd h.1 (by decide)
 have G := fun w => goesUp_any (loW 400) 0 10 1 w (Or.inr (Or.inl rfl)) (loW_word 400) (by decide) (by decide) (by decide)
 have eu : upB (loW 400) 0 10 1 = false := by decide
 rw [eu] at G
 exact portion_plain _ _ 1 10 1 _ _ _ _ 0 (sgn 4000) U (by decide) (by decide) (by decide) (by decide) (by decide) D S C G (fun w => sign_any 4000 w ⟨by decide, by decide⟩)
theorem cvr1 : Ss.CvR 100 30 50 [10, 30] 0 30 50 [5, 15] 0 :=
 .inr ⟨by decide, rfl, by decide, by decide, .inl ⟨by decide, .inl ⟨by decide, by decide, by decide, rfl, [0, 1], 0, ⟨List.Perm.refl _, by
  intro i j h1 h2 h3
  have h3 : j < 2 := h3
  have e1 : i = 0 := by omega
  have e2 : j = 1 := by omega
  subst e1 e2
  exact .inr ⟨by decide, by decide⟩⟩, Ss.Ad.start _ _, by decide⟩⟩, by decide⟩
theorem cvr2 : Ss.CvR 1000 500 1000 [500] 0 500 500 [0] 0 :=
 .inr ⟨by decide, rfl, by decide, by decide, .inl ⟨by decide, .inl ⟨by decide, by decide, by decide, rfl, [0], 0, ⟨List.Perm.refl _, by
  intro i j h1 h2
  simp at *
  omega⟩, Ss.Ad.start _ _, by decide⟩⟩, by decide⟩
end Go.Proofs.YtlhbgaiiehljpaaGreat.Ac
namespace Go.Proofs.YtlhbgaiiehljpaaGreat.Ac
open Go.RowKit Go.Deep Go.Maps MonM TexM Go.Proofs.YtlhbgaiiehljpaaGreat
set_option linter.unusedVariables false
set_option linter.unusedSimpArgs false
set_option maxHeartbeats 4000000
set_option maxRecDepth 100000
def F2 (a b : Pv) : HoP := fun k => if k = (1, 7) then some a else if k = (2, 7) then some b else none
theorem F2_1 (a b : Pv) : F2 a b (1, 7) = some a := if_pos rfl
theorem F2_2 (a b : Pv) : F2 a b (2, 7) = some b := by unfold F2; rw [if_neg (by decide), if_pos rfl]
theorem F2_o (a b : Pv) {k : Int × Int} (h1 : k ≠ (1, 7)) (h2 : k ≠ (2, 7)) : F2 a b k = none := by unfold F2; rw [if_neg h1, if_neg h2]
theorem F2_some {a b x : Pv} {k : Int × Int} (h : F2 a b k = some x) : (k = (1, 7) ∧ x = a) ∨ (k = (2, 7) ∧ x = b) := by
 by_cases c : k = (1, 7)
 ·subst c; rw [F2_1] at h; cases h; exact .inl ⟨rfl, rfl⟩
 ·by_cases c2 : k = (2, 7)
  ·subst c2; rw [F2_2] at h; cases h; exact .inr ⟨rfl, rfl⟩
  ·rw [F2_o _ _ c c2] at h; cases h
theorem F2_u1 (a b x : Pv) : upd (F2 a b) (1, 7) x = F2 x b := by
 funext k
 by_cases c : k = (1, 7)
 ·subst c; rw [upd_same, F2_1]
 ·rw [upd_other _ _ c]
  unfold F2
  rw [if_neg c, if_neg c]
theorem F2_u2 (a b x : Pv) : upd (F2 a b) (2, 7) x = F2 a x := by
 funext k
 by_cases c : k = (2, 7)
 ·subst c; rw [upd_same, F2_2]
 ·rw [upd_other _ _ c]
  unfold F2
  split
  ·rfl
  ·rfl
theorem F2_new (a b : Pv) : upd (upd (fun _ => none) (1, 7) a) (2, 7) b = F2 a b := by
 funext k
 by_cases c : k = (2, 7)
 ·subst c; rw [upd_same, F2_2]
 ·rw [upd_other _ _ c]
  by_cases c2 : k = (1, 7)
  ·subst c2; rw [upd_same, F2_1]
  ·rw [upd_other _ _ c2, F2_o _ _ c2 c]
theorem u32l {k : Int} (h0 : 0 ≤ k) (h1 : k < 4294967296) : U32 k := u32_mk h0 h1
theorem ok1 : kvP.ok (1, 7) := ⟨u32l (by decide) (by decide), u32l (by decide) (by decide)⟩
theorem ok2 : kvP.ok (2, 7) := ⟨u32l (by decide) (by decide), u32l (by decide) (by decide)⟩
/-- both keys, in some order. -/
theorem sd_two {a b : Pv} {lf : Int × Int → Bool} {ks : List (Int × Int)} (h : Sd (F2 a b) lf ks) (hl : ∀ k, kvP.ok k → lf k = false) : ks = [(1, 7), (2, 7)] ∨ ks = [(2, 7), (1, 7)] := by
 have i1 : (1, 7) ∈ ks := Classical.byContradiction fun c => by
  have := (h.lf _ ok1).2 ⟨by rw [F2_1]; rfl, c⟩
  rw [hl _ ok1] at this
  cases this
 have i2 : (2, 7) ∈ ks := Classical.byContradiction fun c => by
  have := (h.lf _ ok2).2 ⟨by rw [F2_2]; rfl, c⟩
  rw [hl _ ok2] at this
  cases this
 have ha : ∀ k ∈ ks, k = (1, 7) ∨ k = (2, 7) := fun k hk => by
  obtain ⟨x, hx⟩ := Option.isSome_iff_exists.1 (h.ok k hk).2
  rcases F2_some hx with h | h
  ·exact .inl h.1
  ·exact .inr h.1
 have hn := h.nd
 match ks, hn, i1, i2, ha with
 | [], _, i1, _, _ => cases i1
 | [x], _, i1, i2, _ =>
  have e1 : ((1, 7) : Int × Int) = x := by simpa using i1
  have e2 : ((2, 7) : Int × Int) = x := by simpa using i2
  rw [← e1] at e2
  exact absurd e2 (by decide)
 | [x, y], hn, _, _, ha =>
  have hx := ha x (by simp)
  have hy := ha y (by simp)
  have hxy : x ≠ y := by simp at hn; exact hn
  rcases hx with rfl | rfl <;> rcases hy with rfl | rfl
  ·exact absurd rfl hxy
  ·exact .inl rfl
  ·exact .inr rfl
  ·exact absurd rfl hxy
 | x :: y :: z :: r, hn, _, _, ha =>
  have hx := ha x (by simp)
  have hy := ha y (by simp)
  have hz := ha z (by simp)
  rw [List.nodup_cons, List.nodup_cons] at hn
  simp only [List.mem_cons, not_or] at hn
  exfalso
  rcases hx with rfl | rfl <;> rcases hy with rfl | rfl <;> rcases hz with rfl | rfl <;> simp at hn
def G2 (x y : Int) : Int → Option Int := fun m => if m = 1 then some x else if m = 2 then some y else none
theorem need_two {a b : Pv} {lf : Int × Int → Bool} {ks : List (Int × Int)} (h : Sd (F2 a b) lf ks) (hl : ∀ k, kvP.ok k → lf k = false) : ks.foldl (stepN fun _ => 400) (fun _ => none) = G2 400 400 := by
 have key : ∀ m, (upd (upd (fun _ => none) 1 (400 : Int)) 2 400 : Int → Option Int) m = G2 400 400 m := fun m => by
  unfold G2 upd
  by_cases c : m = 2
  ·subst c; rfl
  ·rw [if_neg c]
   by_cases c2 : m = 1
   ·rw [if_pos c2, if_pos c2]
   ·rw [if_neg c2, if_neg c2, if_neg c]
 have key2 : ∀ m, (upd (upd (fun _ => none) 2 (400 : Int)) 1 400 : Int → Option Int) m = G2 400 400 m := fun m => by
  unfold G2 upd
  by_cases c2 : m = 1
  ·rw [if_pos c2]
  ·rw [if_neg c2]
 rcases sd_two h hl with rfl | rfl
 ·funext m
  rw [← key m]
  rfl
 ·funext m
  rw [← key2 m]
  rfl
def lA (b1 b2 : Nat) : List (Nat × Sv) := [(b1, ⟨1, 500, 0, false, false⟩), (b2, ⟨2, 500, 0, false, false⟩)]
def lA1 (b1 b2 : Nat) : List (Nat × Sv) := [(b1, ⟨1, 500, -1000, false, false⟩), (b2, ⟨2, 500, 1000, false, false⟩)]
def lB (b1 b2 : Nat) : List (Nat × Sv) := [(b1, ⟨1, 500, -1000, true, false⟩), (b2, ⟨2, 500, 1000, false, false⟩)]
abbrev pA : Pv := ⟨10, 5000⟩
abbrev pB : Pv := ⟨-10, -5000⟩
abbrev pA1 : Pv := ⟨10, 4000⟩
abbrev pB1 : Pv := ⟨-10, -4000⟩
theorem setA (b1 b2 : Nat) {lf : Int × Int → Bool} {ks : List (Int × Int)} (h : Sd (F2 pA pB) lf ks) (hl : ∀ k, kvP.ok k → lf k = false) : ks.foldl (stepL (F2 pA pB) 400) (lA b1 b2) = lA1 b1 b2 ∧ ks.foldl (stepF (F2 pA pB) 400) (F2 pA pB) = F2 pA1 pB1 := by
 have e1 : ∀ f, stepF (F2 pA pB) 400 f (1, 7) = upd f (1, 7) pA1 := fun f => by unfold stepF; rw [F2_1]; rfl
 have e2 : ∀ f, stepF (F2 pA pB) 400 f (2, 7) = upd f (2, 7) pB1 := fun f => by unfold stepF; rw [F2_2]; rfl
 rcases sd_two h hl with rfl | rfl
 ·refine ⟨rfl, ?_⟩
  simp only [List.foldl_cons, List.foldl_nil, e1, e2, F2_u1, F2_u2]
 ·refine ⟨rfl, ?_⟩
  simp only [List.foldl_cons, List.foldl_nil, e1, e2, F2_u1, F2_u2]
theorem setB (b1 b2 : Nat) {lf : Int × Int → Bool} {ks : List (Int × Int)} (h : Sd (F2 pA1 pB1) lf ks) (hl : ∀ k, kvP.ok k → lf k = false) : ks.foldl (stepL (F2 pA1 pB1) 400) (lB b1 b2) = lB b1 b2 ∧ ks.foldl (stepF (F2 pA1 pB1) 400) (F2 pA1 pB1) = F2 pA1 pB1 := by
 have e1 : ∀ f, stepF (F2 pA1 pB1) 400 f (1, 7) = upd f (1, 7) pA1 := fun f => by unfold stepF; rw [F2_1]; rfl
 have e2 : ∀ f, stepF (F2 pA1 pB1) 400 f (2, 7) = upd f (2, 7) pB1 := fun f => by unfold stepF; rw [F2_2]; rfl
 rcases sd_two h hl with rfl | rfl
 ·refine ⟨rfl, ?_⟩
  simp only [List.foldl_cons, List.foldl_nil, e1, e2, F2_u1, F2_u2]
 ·refine ⟨rfl, ?_⟩
  simp only [List.foldl_cons, List.foldl_nil, e1, e2, F2_u1, F2_u2]
theorem sok {a b : Pv} {x y : Nat × Sv} (ha : a.q ≠ 0 ∧ (-1099511627776 ≤ a.q ∧ a.q ≤ 1099511627776) ∧ Amt a.v) (hb : b.q ≠ 0 ∧ (-1099511627776 ≤ b.q ∧ b.q ≤ 1099511627776) ∧ Amt b.v) (hx : x.2.m = 1) (hy : y.2.m = 2) (hx2 : Amt x.2.mg) (hy2 : Amt y.2.mg) : SOk (F2 a b) 7 [x, y] where
 i := fun k p e => by
  rcases F2_some e with ⟨rfl, rfl⟩ | ⟨rfl, rfl⟩
  ·exact ⟨rfl, ha.1, ha.2.1, ha.2.2, x, by simp, hx⟩
  ·exact ⟨rfl, hb.1, hb.2.1, hb.2.2, y, by simp, hy⟩
 a := fun z hz => by
  simp at hz
  rcases hz with rfl | rfl
  ·exact hx2
  ·exact hy2
end Go.Proofs.YtlhbgaiiehljpaaGreat.Ac
namespace Go.Proofs.YtlhbgaiiehljpaaGreat.Ac
open Go.RowKit Go.Deep Go.Maps MonM Go.Proofs.YtlhbgaiiehljpaaGreat
set_option linter.unusedVariables false
set_option linter.unusedSimpArgs false
set_option maxHeartbeats 8000000
set_option maxRecDepth 100000
attribute [local go_sem ↓] Go.wp_at_zero Go.wp_at_succ
theorem own_ask {H : Nat} {o : Int} {p : Option Addr} {c : Nat} {l : List (Nat × Sv)} {M : Option Nat} {n : Nat} {f : HoP} (w : World) (h : Ho w H o p c l M n f) :
  Calls Tryz.prog 19 #[pb H] w fun e w' => e = .returned (.int .u64 o) ∧ w' = w := by
 have k0 := row_cell h.row 0
 simp only [List.getElem?_toArray, List.getElem?_cons_succ, List.getElem?_cons_zero] at k0
 clear h
 go_enter Tryz.func19, Tryz.ntmps19
 go_wp2
 go_ret
 exact ⟨rfl, rfl⟩
theorem pos_ask {H : Nat} {o : Int} {p : Option Addr} {c : Nat} {l : List (Nat × Sv)} {b : Nat} {n : Nat} {f : HoP} (w : World) (h : Ho w H o p c l (some b) n f) (m i : Int) (hm : U32 m) (hi : U32 i) (x : Pv) (hx : (f (m, i)).getD p0 = x) :
  Calls Tryz.prog 20 #[pb H, .int .u32 m, .int .u32 i] w fun e w' => e = .returned (.int .i64 x.q) ∧ w' = w := by
 have k2 := row_cell h.row 2
 simp only [List.getElem?_toArray, List.getElem?_cons_succ, List.getElem?_cons_zero] at k2
 have LK : (Instr.lookup 98 (.map (some b)) (.agg #[.int .u32 m, .int .u32 i]) false).run Tryz.prog w = .ok (.agg #[.int .i64 x.q, .int .u64 (hiW x.v), .int .u64 (loW x.v)]) w := by
  have h1 := Mp.get h.mp okP (m, i) ⟨hm, hi⟩
  have e1 : kvP.val ((f (m, i)).getD kvP.zero) = pval x := by rw [← hx]; rfl
  rw [e1] at h1
  exact h1
 obtain ⟨q, hq⟩ : ∃ q, x.q = q := ⟨_, rfl⟩
 obtain ⟨u1, hu1⟩ : ∃ q, hiW x.v = q := ⟨_, rfl⟩
 obtain ⟨u2, hu2⟩ : ∃ q, loW x.v = q := ⟨_, rfl⟩
 rw [hq, hu1, hu2] at LK
 rw [hq]
 have hfd : ∀ U : World, (Instr.field 109 (.agg #[.int .i64 q, .int .u64 u1, .int .u64 u2]) 0).run Tryz.prog U = .ok (.int .i64 q) U := fun _ => by kernel_rfl
 clear h hx hq hu1 hu2
 go_enter Tryz.func20, Tryz.ntmps20
 go_wp2
 go_ret
 exact ⟨rfl, rfl⟩
theorem f2_in {a b : Pv} {b1 b2 : Nat} {x y : Sv} (hx : x.m = 1) (hy : y.m = 2) : ∀ k z, F2 a b k = some z → ∃ u ∈ [(b1, x), (b2, y)], u.2.m = k.1 := fun k z e => by
 rcases F2_some e with ⟨rfl, _⟩ | ⟨rfl, _⟩
 ·exact ⟨_, List.mem_cons_self .., hx⟩
 ·exact ⟨_, List.mem_cons_of_mem _ (List.mem_cons_self ..), hy⟩
theorem amtd {v : Int} (h : -1180591620717411303424 ≤ v) (h2 : v ≤ 1180591620717411303424) : Amt v := by unfold Amt; omega
theorem am0 : Amt 0 := amtd (by decide) (by decide)
theorem amN : Amt (-1000) := amtd (by decide) (by decide)
theorem amP : Amt 1000 := amtd (by decide) (by decide)
theorem uo1 : U32 1 := u32l (by decide) (by decide)
theorem uo2 : U32 2 := u32l (by decide) (by decide)
theorem portions {f1 : HoP} (h : f1 = F2 pA1 pB1) : ∀ k x, f1 k = some x → ∀ U, Calls Tryz.prog 71 #[mv (400 * szq x.q), .int .u32 1, .int .u32 10, .int .i64 1] U fun e w' => e = .returned (.tuple #[mv ((fun _ => 400 : Int × Int → Int) k), .int .i64 0]) ∧ Below U.heap.size U w' := fun k x e U => by
 subst h
 rcases F2_some e with ⟨_, rfl⟩ | ⟨_, rfl⟩
 ·exact por400 U
 ·exact por400 U
theorem closeA {H : Nat} {p : Option Addr} {c b1 b2 b : Nat} (w : World) (h : Ho w H 1000 p c (lA b1 b2) (some b) 2 (F2 pA pB)) (R : Nat) (hr : w.heap[R]? = some (.cells #[.int .u32 7, .int .i64 400, .int .u32 1, .int .u32 10] 61 (0, 0))) :
  Calls Tryz.prog 17 #[pb H, .slice (some ⟨R, 0, none⟩) 1 1] w fun e w' => ∃ qc dc, e = .returned (.tuple #[.slice qc 1 dc, .slice none 0 0, .int .i64 0]) ∧ w'.ownsRow w.heap.size 68 5 (.slice qc 1 dc) 1 (clv [⟨1, 400, -1000⟩]) ∧ Ho w' H 1000 p c (lB b1 b2) (some b) 3 (F2 pA1 pB1) ∧ Kp (Ob H p [b1, b2] (some b)) w w' := by
 refine (close_any w h (by decide) 7 400 1 10 R hr (u32l (by decide) (by decide)) (by decide) (by decide) (by decide) (by decide) (sok ⟨by decide, ⟨by decide, by decide⟩, amtd (by decide) (by decide)⟩ ⟨by decide, ⟨by decide, by decide⟩, amtd (by decide) (by decide)⟩ rfl rfl am0 am0) (fun y hy => by
   simp [lA] at hy
   rcases hy with rfl | rfl
   ·exact uo1
   ·exact uo2) (lA1 b1 b2) (F2 pA1 pB1) (fun lf ks h1 h2 => setA b1 b2 h1 h2) rfl (sok ⟨by decide, ⟨by decide, by decide⟩, amtd (by decide) (by decide)⟩ ⟨by decide, ⟨by decide, by decide⟩, amtd (by decide) (by decide)⟩ rfl rfl amN amP) (fun y hy => by
   simp [lA1] at hy
   rcases hy with rfl | rfl
   ·exact uo1
   ·exact uo2) (fun _ => 400) 0 (fun _ => amtd (by decide) (by decide)) (portions rfl) (G2 400 400) (fun lf ks h1 h2 => need_two h1 h2)
  (fun _ _ v w' => v = .slice none 0 0 ∧ Ho w' H 1000 p c (lB b1 b2) (some b) 3 (F2 pA1 pB1)) (fun U b0 qf df hU own => ?_)).mono ?_
 ·have hU : Ho U H 1000 p c (lB b1 b2) (some b) 2 (F2 pA1 pB1) := hU
  refine (drop_none U hU (by decide) (fun y hy => ?_) (f2_in rfl rfl) qf df).mono ?_
  ·simp [lB] at hy
   rcases hy with rfl | rfl <;> rfl
  ·rintro e w' ⟨rfl, h1, h2⟩
   exact ⟨⟨_, rfl, rfl, h1⟩, h2.mono (fun g _ hg => .inr (.inr (.inr (by rw [hg]))))⟩
 ·rintro e w' ⟨qc, dc, v, U, rfl, h1, _, ⟨rfl, h2⟩, h3⟩
  exact ⟨qc, dc, rfl, h1, h2, h3⟩
theorem closeB {H : Nat} {p : Option Addr} {c b1 b2 b : Nat} (w : World) (h : Ho w H 1000 p c (lB b1 b2) (some b) 3 (F2 pA1 pB1)) (R : Nat) (hr : w.heap[R]? = some (.cells #[.int .u32 7, .int .i64 400, .int .u32 1, .int .u32 10] 61 (0, 0))) :
  Calls Tryz.prog 17 #[pb H, .slice (some ⟨R, 0, none⟩) 1 1] w fun e w' => ∃ qc dc gf cf q9, e = .returned (.tuple #[.slice qc 0 dc, .slice (some ⟨gf, 0, none⟩) 1 cf, .int .i64 0]) ∧ (∃ base, w'.ownsRow base 71 5 (.slice (some ⟨gf, 0, none⟩) 1 cf) 1 [.int .u32 1, .int .u64 500, .int .u64 500, .slice q9 1 1, .int .u64 0]) ∧ Ho w' H 500 p c [(b1, ⟨1, 0, 0, false, true⟩), (b2, ⟨2, 500, 1000, false, false⟩)] (some b) 4 (fT [(1, 7)] (F2 pA1 pB1)) ∧ Kp (Ob H p [b1, b2] (some b)) w w' := by
 refine (close_any w h (by decide) 7 400 1 10 R hr (u32l (by decide) (by decide)) (by decide) (by decide) (by decide) (by decide) (sok ⟨by decide, ⟨by decide, by decide⟩, amtd (by decide) (by decide)⟩ ⟨by decide, ⟨by decide, by decide⟩, amtd (by decide) (by decide)⟩ rfl rfl amN amP) (fun y hy => by
   simp [lB] at hy
   rcases hy with rfl | rfl
   ·exact uo1
   ·exact uo2) (lB b1 b2) (F2 pA1 pB1) (fun lf ks h1 h2 => setB b1 b2 h1 h2) rfl (sok ⟨by decide, ⟨by decide, by decide⟩, amtd (by decide) (by decide)⟩ ⟨by decide, ⟨by decide, by decide⟩, amtd (by decide) (by decide)⟩ rfl rfl amN amP) (fun y hy => by
   simp [lB] at hy
   rcases hy with rfl | rfl
   ·exact uo1
   ·exact uo2) (fun _ => 400) 0 (fun _ => amtd (by decide) (by decide)) (portions rfl) (G2 400 400) (fun lf ks h1 h2 => need_two h1 h2)
  (fun _ s v w' => (∃ gf cf q9, v = .slice (some ⟨gf, 0, none⟩) 1 cf ∧ w'.ownsRow s 71 5 (.slice (some ⟨gf, 0, none⟩) 1 cf) 1 [.int .u32 1, .int .u64 500, .int .u64 500, .slice q9 1 1, .int .u64 0]) ∧ Ho w' H 500 p c [(b1, ⟨1, 0, 0, false, true⟩), (b2, ⟨2, 500, 1000, false, false⟩)] (some b) 4 (fT [(1, 7)] (F2 pA1 pB1))) (fun U b0 qf df hU own => ?_)).mono ?_
 ·have hU : Ho U H 1000 p c (lB b1 b2) (some b) 3 (F2 pA1 pB1) := hU
  have own : U.ownsRow b0 104 1 (.slice qf 1 df) 1 [pb b1] := own
  have hb : ∀ er o' h' l lf, Ss.CvR 1000 500 1000 [500] er o' h' l lf → 0 = er ∧ 500 = o' ∧ 500 = h' ∧ [0] = l ∧ 0 = lf := fun er o' h' l lf hc => cvr2.uniq hc
  refine (drop_one b1 b2 1 500 (-1000) 2 500 1000 7 true false U hU (by decide) (amtd (by decide) (by decide)) (by decide) (by decide) ⟨by decide, by decide⟩ ⟨by decide, by decide⟩ ⟨by decide, by decide⟩ 500 500 0 0 hb ⟨by decide, by decide⟩ ⟨by decide, by decide⟩ ⟨by decide, by decide⟩ (fun ks lf h1 h2 => ?_) (f2_in rfl rfl) 10 4000 (F2_1 _ _) (F2_o _ _ (by decide) (by decide)) (by decide) (amtd (by decide) (by decide)) ⟨by decide, by decide⟩ (by decide) (u32l (by decide) (by decide)) (u32l (by decide) (by decide)) b0 qf df own).mono ?_
  ·rcases sd_two h1 h2 with rfl | rfl <;> rfl
  ·rintro e w' ⟨⟨gf, cf', q9, rfl, h1⟩, h2, h3⟩
   refine ⟨⟨_, rfl, ⟨gf, cf', q9, rfl, h1⟩, h2⟩, h3.mono (fun g _ hg => ?_)⟩
   rcases hg with rfl | rfl | rfl | rfl
   ·exact .inl rfl
   ·exact .inr (.inr (.inl (List.mem_cons_self ..)))
   ·exact .inr (.inr (.inl (List.mem_cons_of_mem _ (List.mem_cons_self ..))))
   ·exact .inr (.inr (.inr rfl))
 ·rintro e w' ⟨qc, dc, v, U, rfl, h1, _, ⟨⟨gf, cf, q9, rfl, h2⟩, h4⟩, h3⟩
  exact ⟨qc, dc, gf, cf, q9, rfl, ⟨_, h2⟩, h4, h3⟩
end Go.Proofs.YtlhbgaiiehljpaaGreat.Ac
