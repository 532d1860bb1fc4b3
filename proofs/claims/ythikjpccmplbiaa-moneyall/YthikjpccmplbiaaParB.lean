/-
  Reading an amount's text: the walk.
-/
import Derived.Test.YthikjpccmplbiaaTexB
import Derived.Test.YthikjpccmplbiaaParA
import Derived.Test.YthikjpccmplbiaaShelf
import Derived.Deep.RegionHeld3
namespace Go.Proofs.Ythikjpccmplbiaa
open Go.RowKit Go.Deep MonM TexM ParM
set_option linter.unusedVariables false

/-- the amount that is being read, and the place of the answer. -/
def PS (w : World) (v : Int) (wr : World) : Prop := Two wr (w.heap.size + 1) v ∧ Two wr w.heap.size 0 ∧ Below w.heap.size w wr
theorem PS.drew {w wr : World} {v : Int} (h : PS w v wr) : PS w v wr.drew := ⟨World.rowIs.drew h.1, World.rowIs.drew h.2.1, Below.drew h.2.2⟩
theorem PS.alloc {w wr : World} {v : Int} (h : PS w v wr) (o : Obj) : PS w v (wr.alloc o) := ⟨World.rowIs.alloc h.1 o, World.rowIs.alloc h.2.1 o, bal h.2.2 o⟩
theorem PS.to {w wr w' : World} {v : Int} (h : PS w v wr) (hb : Below wr.heap.size wr w') : PS w v w' := ⟨rowIs_below h.1 hb, rowIs_below h.2.1 hb, btr h.2.2 hb⟩
theorem PS.set {w wr : World} {v : Int} (h : PS w v wr) (u : Int) : PS w u ((wr.setCell ⟨w.heap.size + 1, 0, none⟩ (.int .u64 (hiW u))).setCell ⟨w.heap.size + 1, 1, none⟩ (.int .u64 (loW u))) :=
  ⟨h.1.set u, World.rowIs.setOther (World.rowIs.setOther h.2.1 (by dsimp only; omega) _) (by dsimp only; omega) _, (h.2.2.setCell (by dsimp only; omega) _).setCell (by dsimp only; omega) _⟩
theorem PS.other {w wr : World} {v : Int} (h : PS w v wr) (a : Addr) (x : Value) (ha : w.heap.size + 1 < a.block) : PS w v (wr.setCell a x) :=
  ⟨World.rowIs.setOther h.1 (by omega) _, World.rowIs.setOther h.2.1 (by omega) _, h.2.2.setCell (by omega) _⟩
theorem ps_start (w : World) : PS w 0 ((w.alloc (.cells #[.int .u64 0, .int .u64 0] 26)).alloc (.cells #[.int .u64 0, .int .u64 0] 26)) := by
  have h1 := two_new w 0
  have h2 := two_new (w.alloc (.cells #[.int .u64 (hiW 0), .int .u64 (loW 0)] 26)) 0
  have e : (w.alloc (.cells #[.int .u64 (hiW 0), .int .u64 (loW 0)] 26)).heap.size = w.heap.size + 1 := by simp
  rw [e] at h2
  exact ⟨h2, World.rowIs.alloc h1 _, bal (bal (b0 w) _) _⟩

theorem take_nums (D : ByteArray) (k : Nat) (h : k < D.size) : (nums D).take (k + 1) = (nums D).take k ++ [((D[k]'h).toNat : Int)] := by
  have hl : k < (nums D).length := by rw [nums_len]; exact h
  rw [List.take_succ_eq_append_getElem hl]
  congr 2
  simp [nums]
  rfl

theorem str_ne (a s : ByteArray) (h : ¬ a = s) : (a.toList == s.toList) = false := by
  rw [Lib.toList_data, Lib.toList_data]
  simp
  intro e
  apply h
  rw [← Lib.mk_data a, ← Lib.mk_data s, e]
theorem two_to {w w' : World} {b : Nat} {v : Int} (h : Two w b v) (hb : Below w.heap.size w w') : Two w' b v := rowIs_below h hb
theorem two_drew {w : World} {b : Nat} {v : Int} (h : Two w b v) : Two w.drew b v := World.rowIs.drew h
theorem keepP {W w' : World} {b : Nat} {v : Int} (k : Two W b v) (h : Below W.heap.size W w') :
    (w'.cell? ⟨b, 0, none⟩ = some (.int .u64 (hiW v)) ∧ w'.cell? ⟨b, 1, none⟩ = some (.int .u64 (loW v))) ∧ Below W.heap.size W w' := ⟨⟨(two_to k h).c0, (two_to k h).c1⟩, h⟩
/-- what comes of reading. -/
def ParseP (s D : ByteArray) (mi : Bool) (e : Ending) : Prop :=
  (∃ v ys, rd (nums D) 0 = some v ∧ IsText (if mi then -v else v) ys ∧ strOfNums ys = s ∧ e = .returned (.tuple #[mv (if mi then -v else v), .int .i64 0])) ∨
  (rd (nums D) 0 = none ∧ e = .returned (.tuple #[mv 0, .int .i64 3])) ∨
  (∃ v ys, rd (nums D) 0 = some v ∧ IsText (if mi then -v else v) ys ∧ ¬ strOfNums ys = s ∧ e = .returned (.tuple #[mv 0, .int .i64 3]))

set_option maxHeartbeats 20000000 in
set_option maxRecDepth 100000 in
theorem parse_walk (s D : ByteArray) (mi : Bool) (w : World) (hs : s.size ≤ 41) (hD : D.size ≤ 41)
    (CP : Hid (∀ w : World, Calls Try.prog 38 #[.string s, .string ⟨#[45]⟩] w fun e w' => e = .returned (.tuple #[.string D, .bool mi]) ∧ w' = w))
    (BH : Hid (∀ (v d : Int) (w : World), 0 ≤ v → v ≤ 170141183460469231731687303715884105727 → 0 ≤ d → d < 256 → Calls Try.prog 39 #[mv v, .int .u8 d] w fun e w' =>
      (48 ≤ d ∧ d ≤ 57 ∧ v * 10 + (d - 48) ≤ 170141183460469231731687303715884105727 ∧ e = .returned (.tuple #[mv (v * 10 + (d - 48)), .bool true]) ∨
       ¬ (48 ≤ d ∧ d ≤ 57 ∧ v * 10 + (d - 48) ≤ 170141183460469231731687303715884105727) ∧ e = .returned (.tuple #[mv 0, .bool false])) ∧ Below w.heap.size w w')) :
    Calls Try.prog 18 #[.string s] w fun e w' => ParseP s D mi e ∧ Below w.heap.size w w' := by
  unfold mv at *
  go_enter Try.func18, Try.ntmps18
  go_wp2_with fail
  refine (CP.out _).mono ?_
  rintro e w1 ⟨rfl, rfl⟩
  go_wp2_with fail
  go_loopw [7, 8, 9, 21] (fun _ _ _ iv wr => ∃ (k : Nat) (v : Int), k ≤ D.size ∧ iv = .int .i64 k ∧ 0 ≤ v ∧ v ≤ 170141183460469231731687303715884105727 ∧ Hid (rd ((nums D).take k) 0 = some v) ∧ Hid (PS w v wr)) (fun _ _ _ iv _ => D.size - (intOf iv).toNat)
  case atStart => exact ⟨0, 0, Nat.zero_le _, rfl, by decide, by decide, rfl, ps_start w⟩
  case round =>
    obtain ⟨k, v, hk, rfl, v0, v1, HR, HS⟩ := hrel
    by_cases hlt : k < D.size
    · have ht := take_nums D k hlt
      obtain ⟨x, hx⟩ : ∃ x : Int, ((D[k]'hlt).toNat : Int) = x := ⟨_, rfl⟩
      rw [hx] at ht
      have x0 : 0 ≤ x := by omega
      have x1 : x < 256 := by have := (D[k]'hlt).toNat_lt; omega
      have i0 : (0 : Int) ≤ (k : Int) := by omega
      have i1 : (k : Int) < (D.size : Int) := by omega
      have hrs : rd ((nums D).take (k + 1)) 0 = rd [x] v := by rw [ht, rd_snoc, HR.out]; rfl
      have HRS := hid hrs
      clear ht hrs
      by_cases h46 : x = 46
      · have hb46 : (x == 46) = true := by simpa using h46
        have HR2 := hid (show rd ((nums D).take (k + 1)) 0 = some v by rw [HRS.out, h46]; rfl)
        clear h46
        go_wp2
        go_roundw
        case rel => exact ⟨k + 1, v, by omega, by go_num, v0, v1, HR2, HS⟩
        case measure => simp [intOf]; omega
      · have hb46 : (x == 46) = false := by simpa using h46
        have r0 := HS.out.1.c0
        have r1 := HS.out.1.c1
        have fz0 := HS.out.1.f0
        have fz1 := HS.out.1.f1
        have hz := HS.out.1.lt
        have hz' : w.heap.size < wr.heap.size := by omega
        by_cases ok : 48 ≤ x ∧ x ≤ 57 ∧ v * 10 + (x - 48) ≤ 170141183460469231731687303715884105727
        · have B := hid (show ∀ w : World, Calls Try.prog 39 #[mv v, .int .u8 x] w fun e w' => e = .returned (.tuple #[mv (v * 10 + (x - 48)), .bool true]) ∧ Below w.heap.size w w' from by
            intro w
            refine (BH.out v x w v0 v1 x0 x1).mono ?_
            rintro e w' ⟨h | h, hb⟩
            · exact ⟨h.2.2.2, hb⟩
            · exact absurd ok h.1)
          have HR2 := hid (show rd ((nums D).take (k + 1)) 0 = some (v * 10 + (x - 48)) by rw [HRS.out]; simp only [rd]; rw [if_neg h46, if_pos ok])
          obtain ⟨o1, o2, o3⟩ := ok
          obtain ⟨u, hu⟩ : ∃ u, v * 10 + (x - 48) = u := ⟨_, rfl⟩
          rw [hu] at B HR2 o3
          have u0 : 0 ≤ u := by omega
          unfold mv at B
          clear hu h46 HRS
          have HT := hid HS.out.1
          go_wp2
          go_region_held3 (fun w' => (w'.cell? ⟨w.heap.size + 1, 0, none⟩ = some (.int .u64 (hiW v)) ∧ w'.cell? ⟨w.heap.size + 1, 1, none⟩ = some (.int .u64 (loW v))) ∧ Below wr.heap.size wr w') (exact keepP HT.out (by repeat (first | exact HK.out | exact Below.refl _ _ | refine bal ?_ _ | refine Below.setCell ?_ (by dsimp only; omega) _ | refine Below.drew ?_)))
            ((go_at_call 39; refine (B.out _).mono ?_; rintro e w3 ⟨rfl, hbk⟩; have HK := hid (show Below wr.heap.size wr w3 from (by refine btr ?_ hbk; repeat (first | exact HK.out | exact Below.refl _ _ | refine bal ?_ _ | refine Below.setCell ?_ (by dsimp only; omega) _ | refine Below.drew ?_))); have hz3 : wr.heap.size ≤ w3.heap.size := HK.out.size; (first | (have T := hid (two_to (two_new _ 0) hbk)) | (have T := hid (two_to (two_drew (two_new _ 0)) hbk)) | skip); (try (have t0 := T.out.c0; have t1 := T.out.c1; have t2 := T.out.f0; have t3 := T.out.f1)); clear hbk))
          ·
            have T8 := hid (two_new w3 u)
            have P4 := hid ((HS.out.to HK.out).alloc (.cells #[.int .u64 (hiW u), .int .u64 (loW u)] 26))
            obtain ⟨W4, hW4⟩ : ∃ W, w3.alloc (.cells #[.int .u64 (hiW u), .int .u64 (loW u)] 26) = W := ⟨_, rfl⟩
            rw [hW4] at T8 P4 ⊢
            clear hW4
            clear HK
            (try clear T t0 t1 t2 t3)
            have c0 := T8.out.c0
            have c1 := T8.out.c1
            clear r0 r1 fz0 fz1
            have r0 := P4.out.1.c0
            have r1 := P4.out.1.c1
            have fz0 := P4.out.1.f0
            have fz1 := P4.out.1.f1
            go_wp2
            go_roundw
            case rel => exact ⟨k + 1, u, by omega, by go_num, u0, o3, HR2, P4.out.set u⟩
            case measure => simp [intOf]; omega
          ·
            have T8 := hid (T.out.set u)
            have P4 := hid (((HS.out.to HK.out).other ⟨wr.heap.size, 0, none⟩ (.int .u64 (hiW u)) (by dsimp only; omega)).other ⟨wr.heap.size, 1, none⟩ (.int .u64 (loW u)) (by dsimp only; omega))
            obtain ⟨W4, hW4⟩ : ∃ W, (w3.setCell ⟨wr.heap.size, 0, none⟩ (.int .u64 (hiW u))).setCell ⟨wr.heap.size, 1, none⟩ (.int .u64 (loW u)) = W := ⟨_, rfl⟩
            rw [hW4] at T8 P4 ⊢
            clear hW4
            clear HK
            (try clear T t0 t1 t2 t3)
            have c0 := T8.out.c0
            have c1 := T8.out.c1
            clear r0 r1 fz0 fz1
            have r0 := P4.out.1.c0
            have r1 := P4.out.1.c1
            have fz0 := P4.out.1.f0
            have fz1 := P4.out.1.f1
            go_wp2
            go_roundw
            case rel => exact ⟨k + 1, u, by omega, by go_num, u0, o3, HR2, P4.out.set u⟩
            case measure => simp [intOf]; omega
          ·
            have T8 := hid (T.out.set u)
            have P4 := hid (((HS.out.to HK.out).other ⟨wr.heap.size, 0, none⟩ (.int .u64 (hiW u)) (by dsimp only; omega)).other ⟨wr.heap.size, 1, none⟩ (.int .u64 (loW u)) (by dsimp only; omega))
            obtain ⟨W4, hW4⟩ : ∃ W, (w3.setCell ⟨wr.heap.size, 0, none⟩ (.int .u64 (hiW u))).setCell ⟨wr.heap.size, 1, none⟩ (.int .u64 (loW u)) = W := ⟨_, rfl⟩
            rw [hW4] at T8 P4 ⊢
            clear hW4
            clear HK
            (try clear T t0 t1 t2 t3)
            have c0 := T8.out.c0
            have c1 := T8.out.c1
            clear r0 r1 fz0 fz1
            have r0 := P4.out.1.c0
            have r1 := P4.out.1.c1
            have fz0 := P4.out.1.f0
            have fz1 := P4.out.1.f1
            go_wp2
            go_roundw
            case rel => exact ⟨k + 1, u, by omega, by go_num, u0, o3, HR2, P4.out.set u⟩
            case measure => simp [intOf]; omega
        · have B := hid (show ∀ w : World, Calls Try.prog 39 #[mv v, .int .u8 x] w fun e w' => e = .returned (.tuple #[mv 0, .bool false]) ∧ Below w.heap.size w w' from by
            intro w
            refine (BH.out v x w v0 v1 x0 x1).mono ?_
            rintro e w' ⟨h | h, hb⟩
            · exact absurd ⟨h.1, h.2.1, h.2.2.1⟩ ok
            · exact ⟨h.2, hb⟩)
          have HR2 := hid (show rd (nums D) 0 = none by
            have e : nums D = (nums D).take (k + 1) ++ (nums D).drop (k + 1) := (List.take_append_drop _ _).symm
            have h1 : rd ((nums D).take (k + 1)) 0 = none := by rw [HRS.out]; simp only [rd]; rw [if_neg h46, if_neg ok]
            rw [e]
            have : ∀ (l r : List Int) (z : Int), rd l z = none → rd (l ++ r) z = none := by
              intro l
              induction l with
              | nil => intro r z h; simp [rd] at h
              | cons y l ih =>
                intro r z h
                simp only [List.cons_append, rd] at h ⊢
                split at h
                · next hy => rw [if_pos hy]; exact ih r z h
                · next hy =>
                  rw [if_neg hy]
                  split at h
                  · next hz => rw [if_pos hz]; exact ih r _ h
                  · next hz => rw [if_neg hz]
            exact this _ _ _ h1)
          unfold mv at B
          clear ok h46 HRS
          have HT := hid HS.out.1
          go_wp2
          go_region_held3 (fun w' => (w'.cell? ⟨w.heap.size + 1, 0, none⟩ = some (.int .u64 (hiW v)) ∧ w'.cell? ⟨w.heap.size + 1, 1, none⟩ = some (.int .u64 (loW v))) ∧ Below wr.heap.size wr w') (exact keepP HT.out (by repeat (first | exact HK.out | exact Below.refl _ _ | refine bal ?_ _ | refine Below.setCell ?_ (by dsimp only; omega) _ | refine Below.drew ?_)))
            ((go_at_call 39; refine (B.out _).mono ?_; rintro e w3 ⟨rfl, hbk⟩; have HK := hid (show Below wr.heap.size wr w3 from (by refine btr ?_ hbk; repeat (first | exact HK.out | exact Below.refl _ _ | refine bal ?_ _ | refine Below.setCell ?_ (by dsimp only; omega) _ | refine Below.drew ?_))); have hz3 : wr.heap.size ≤ w3.heap.size := HK.out.size; (first | (have T := hid (two_to (two_new _ 0) hbk)) | (have T := hid (two_to (two_drew (two_new _ 0)) hbk)) | skip); (try (have t0 := T.out.c0; have t1 := T.out.c1; have t2 := T.out.f0; have t3 := T.out.f1)); clear hbk))
          ·
            have P4 := hid ((HS.out.to HK.out).alloc (.cells #[.int .u64 (hiW 0), .int .u64 (loW 0)] 26))
            obtain ⟨W4, hW4⟩ : ∃ W, w3.alloc (.cells #[.int .u64 (hiW 0), .int .u64 (loW 0)] 26) = W := ⟨_, rfl⟩
            rw [hW4] at P4 ⊢
            clear hW4
            clear HK
            (try clear T t0 t1 t2 t3)
            clear r0 r1 fz0 fz1
            have r0 := P4.out.2.1.c0
            have r1 := P4.out.2.1.c1
            have fz0 := P4.out.2.1.f0
            have fz1 := P4.out.2.1.f1
            have PF := hid (show Two ((W4.setCell ⟨w.heap.size, 0, none⟩ (.int .u64 (hiW 0))).setCell ⟨w.heap.size, 1, none⟩ (.int .u64 (loW 0))) w.heap.size 0 from P4.out.2.1.set 0)
            go_wp2
            refine bodyPost_ret (v := .tuple #[.agg #[.int .u64 0, .int .u64 0], .int .i64 3]) (by have p0 := PF.out.c0; have p1 := PF.out.c1; rw [words_zero.1, words_zero.2] at p0 p1; simp [results, Try.results18, go_sem, p0, p1]) rfl ⟨Or.inr (Or.inl ⟨HR2.out, rfl⟩), ?_⟩
            exact (P4.out.2.2.setCell (by dsimp only; omega) _).setCell (by dsimp only; omega) _
          ·
            have P4 := hid (((HS.out.to HK.out).other ⟨wr.heap.size, 0, none⟩ (.int .u64 (hiW 0)) (by dsimp only; omega)).other ⟨wr.heap.size, 1, none⟩ (.int .u64 (loW 0)) (by dsimp only; omega))
            obtain ⟨W4, hW4⟩ : ∃ W, (w3.setCell ⟨wr.heap.size, 0, none⟩ (.int .u64 (hiW 0))).setCell ⟨wr.heap.size, 1, none⟩ (.int .u64 (loW 0)) = W := ⟨_, rfl⟩
            rw [hW4] at P4 ⊢
            clear hW4
            clear HK
            (try clear T t0 t1 t2 t3)
            clear r0 r1 fz0 fz1
            have r0 := P4.out.2.1.c0
            have r1 := P4.out.2.1.c1
            have fz0 := P4.out.2.1.f0
            have fz1 := P4.out.2.1.f1
            have PF := hid (show Two ((W4.setCell ⟨w.heap.size, 0, none⟩ (.int .u64 (hiW 0))).setCell ⟨w.heap.size, 1, none⟩ (.int .u64 (loW 0))) w.heap.size 0 from P4.out.2.1.set 0)
            go_wp2
            refine bodyPost_ret (v := .tuple #[.agg #[.int .u64 0, .int .u64 0], .int .i64 3]) (by have p0 := PF.out.c0; have p1 := PF.out.c1; rw [words_zero.1, words_zero.2] at p0 p1; simp [results, Try.results18, go_sem, p0, p1]) rfl ⟨Or.inr (Or.inl ⟨HR2.out, rfl⟩), ?_⟩
            exact (P4.out.2.2.setCell (by dsimp only; omega) _).setCell (by dsimp only; omega) _
          ·
            have P4 := hid (((HS.out.to HK.out).other ⟨wr.heap.size, 0, none⟩ (.int .u64 (hiW 0)) (by dsimp only; omega)).other ⟨wr.heap.size, 1, none⟩ (.int .u64 (loW 0)) (by dsimp only; omega))
            obtain ⟨W4, hW4⟩ : ∃ W, (w3.setCell ⟨wr.heap.size, 0, none⟩ (.int .u64 (hiW 0))).setCell ⟨wr.heap.size, 1, none⟩ (.int .u64 (loW 0)) = W := ⟨_, rfl⟩
            rw [hW4] at P4 ⊢
            clear hW4
            clear HK
            (try clear T t0 t1 t2 t3)
            clear r0 r1 fz0 fz1
            have r0 := P4.out.2.1.c0
            have r1 := P4.out.2.1.c1
            have fz0 := P4.out.2.1.f0
            have fz1 := P4.out.2.1.f1
            have PF := hid (show Two ((W4.setCell ⟨w.heap.size, 0, none⟩ (.int .u64 (hiW 0))).setCell ⟨w.heap.size, 1, none⟩ (.int .u64 (loW 0))) w.heap.size 0 from P4.out.2.1.set 0)
            go_wp2
            refine bodyPost_ret (v := .tuple #[.agg #[.int .u64 0, .int .u64 0], .int .i64 3]) (by have p0 := PF.out.c0; have p1 := PF.out.c1; rw [words_zero.1, words_zero.2] at p0 p1; simp [results, Try.results18, go_sem, p0, p1]) rfl ⟨Or.inr (Or.inl ⟨HR2.out, rfl⟩), ?_⟩
            exact (P4.out.2.2.setCell (by dsimp only; omega) _).setCell (by dsimp only; omega) _
    · have HRD := hid (show rd (nums D) 0 = some v by have := HR.out; rw [List.take_of_length_le (by rw [nums_len]; omega)] at this; exact this)
      have r0 := HS.out.1.c0
      have r1 := HS.out.1.c1
      have fz0 := HS.out.1.f0
      have fz1 := HS.out.1.f1
      cases mi with
      | true =>
        have NG := hid (fun w => neg_any v w)
        have TX := hid (fun w => text_walk (-v) w (by unfold Amt; omega))
        unfold mv at TX NG
        go_wp2_with fail
        refine (NG.out _).mono ?_
        rintro e w2 ⟨rfl, hb2⟩
        have P2 := hid (HS.out.to hb2)
        clear hb2 r0 r1 fz0 fz1
        have r0 := P2.out.1.c0
        have r1 := P2.out.1.c1
        have fz0 := P2.out.1.f0
        have fz1 := P2.out.1.f1
        have P2' := hid (P2.out.set (-v))
        go_wp2_with fail
        refine (TX.out _).mono ?_
        rintro e w3 ⟨⟨ys, hy, rfl⟩, hb3⟩
        have HY := hid hy
        have P3 := hid (P2'.out.to hb3)
        clear hy hb3 r0 r1 fz0 fz1
        have c0 := P3.out.1.c0
        have c1 := P3.out.1.c1
        have q0 := P3.out.2.1.c0
        have q1 := P3.out.2.1.c1
        have qf0 := P3.out.2.1.f0
        have qf1 := P3.out.2.1.f1
        by_cases he : strOfNums ys = s
        · have he' : ((strOfNums ys).toList == s.toList) = true := by rw [he]; simp
          have HE := hid he
          have PF := hid (show Two ((w3.setCell ⟨w.heap.size, 0, none⟩ (.int .u64 (hiW (-v)))).setCell ⟨w.heap.size, 1, none⟩ (.int .u64 (loW (-v)))) w.heap.size (-v) from P3.out.2.1.set (-v))
          clear he
          go_wp2
          refine bodyPost_ret (v := .tuple #[.agg #[.int .u64 (hiW (-v)), .int .u64 (loW (-v))], .int .i64 0]) (by simp [results, Try.results18, go_sem, PF.out.c0, PF.out.c1]) rfl ⟨Or.inl ⟨v, ys, HRD.out, HY.out, HE.out, rfl⟩, ?_⟩
          exact (P3.out.2.2.setCell (by dsimp only; omega) _).setCell (by dsimp only; omega) _
        · have he' := str_ne _ _ he
          have HE := hid he
          have PF := hid (show Two ((w3.setCell ⟨w.heap.size, 0, none⟩ (.int .u64 (hiW 0))).setCell ⟨w.heap.size, 1, none⟩ (.int .u64 (loW 0))) w.heap.size 0 from P3.out.2.1.set 0)
          clear he
          go_wp2
          refine bodyPost_ret (v := .tuple #[.agg #[.int .u64 0, .int .u64 0], .int .i64 3]) (by have p0 := PF.out.c0; have p1 := PF.out.c1; rw [words_zero.1, words_zero.2] at p0 p1; simp [results, Try.results18, go_sem, p0, p1]) rfl ⟨Or.inr (Or.inr ⟨v, ys, HRD.out, HY.out, HE.out, rfl⟩), ?_⟩
          exact (P3.out.2.2.setCell (by dsimp only; omega) _).setCell (by dsimp only; omega) _
      | false =>
        have TX := hid (fun w => text_walk v w (by unfold Amt; omega))
        unfold mv at TX
        go_wp2_with fail
        refine (TX.out _).mono ?_
        rintro e w3 ⟨⟨ys, hy, rfl⟩, hb3⟩
        have HY := hid hy
        have P3 := hid (HS.out.to hb3)
        clear hy hb3 r0 r1 fz0 fz1
        have c0 := P3.out.1.c0
        have c1 := P3.out.1.c1
        have q0 := P3.out.2.1.c0
        have q1 := P3.out.2.1.c1
        have qf0 := P3.out.2.1.f0
        have qf1 := P3.out.2.1.f1
        by_cases he : strOfNums ys = s
        · have he' : ((strOfNums ys).toList == s.toList) = true := by rw [he]; simp
          have HE := hid he
          have PF := hid (show Two ((w3.setCell ⟨w.heap.size, 0, none⟩ (.int .u64 (hiW v))).setCell ⟨w.heap.size, 1, none⟩ (.int .u64 (loW v))) w.heap.size v from P3.out.2.1.set v)
          clear he
          go_wp2
          refine bodyPost_ret (v := .tuple #[.agg #[.int .u64 (hiW v), .int .u64 (loW v)], .int .i64 0]) (by simp [results, Try.results18, go_sem, PF.out.c0, PF.out.c1]) rfl ⟨Or.inl ⟨v, ys, HRD.out, HY.out, HE.out, rfl⟩, ?_⟩
          exact (P3.out.2.2.setCell (by dsimp only; omega) _).setCell (by dsimp only; omega) _
        · have he' := str_ne _ _ he
          have HE := hid he
          have PF := hid (show Two ((w3.setCell ⟨w.heap.size, 0, none⟩ (.int .u64 (hiW 0))).setCell ⟨w.heap.size, 1, none⟩ (.int .u64 (loW 0))) w.heap.size 0 from P3.out.2.1.set 0)
          clear he
          go_wp2
          refine bodyPost_ret (v := .tuple #[.agg #[.int .u64 0, .int .u64 0], .int .i64 3]) (by have p0 := PF.out.c0; have p1 := PF.out.c1; rw [words_zero.1, words_zero.2] at p0 p1; simp [results, Try.results18, go_sem, p0, p1]) rfl ⟨Or.inr (Or.inr ⟨v, ys, HRD.out, HY.out, HE.out, rfl⟩), ?_⟩
          exact (P3.out.2.2.setCell (by dsimp only; omega) _).setCell (by dsimp only; omega) _
end Go.Proofs.Ythikjpccmplbiaa
