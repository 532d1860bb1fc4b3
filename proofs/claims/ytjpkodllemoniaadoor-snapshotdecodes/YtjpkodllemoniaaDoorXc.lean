/-
  snapshot.beginning.
-/
import Derived.Test.YtjpkodllemoniaaDoorXb
import Derived.Test.YtjpkodllemoniaaDoorWiH
import Derived.Test.YtjpkodllemoniaaDoorWiI
namespace Go.Proofs.YtjpkodllemoniaaDoor.Wi
open Go.RowKit Go.Deep Go.Proofs.YtjpkodllemoniaaDoor.Crc
open Go.Proofs.YtjpkodllemoniaaDoor.Cp (btr ball row_on row_cell row_lt row_ne row6 Kp Or Osz orow ors ors_len ors_app own_form own_empty own_lo own_on bdrew1 bdrew)
set_option linter.unusedVariables false
set_option linter.unusedSimpArgs false
set_option maxHeartbeats 16000000
set_option maxRecDepth 100000
attribute [local go_sem ↓] Go.wp_at_zero Go.wp_at_succ
/-- the magic stands at a place. -/
def mgs (xs : List Nat) (j : Nat) : Prop := xs[j]? = mag[j]?
instance (xs : List Nat) (j : Nat) : Decidable (mgs xs j) := by unfold mgs; infer_instance
/-- where the magic ends to be the magic. -/
theorem mgs_or (xs : List Nat) : ∀ k, (∃ q, q < k ∧ (∀ j, j < q → mgs xs j) ∧ ¬ mgs xs q) ∨ ∀ j, j < k → mgs xs j
  | 0 => .inr fun j hj => absurd hj (Nat.not_lt_zero _)
  | k + 1 => by
    rcases mgs_or xs k with ⟨q, h1, h2, h3⟩ | h
    · exact .inl ⟨q, by omega, h2, h3⟩
    · by_cases c : mgs xs k
      · exact .inr fun j hj => if e : j = k then e ▸ c else h j (by omega)
      · exact .inl ⟨k, by omega, h, c⟩
theorem below8 {i : Nat} (h : i < 8) : i = 0 ∨ i = 1 ∨ i = 2 ∨ i = 3 ∨ i = 4 ∨ i = 5 ∨ i = 6 ∨ i = 7 := by omega
theorem begin_no (xs : List Nat) (b o cap n q : Nat) (w : World) (hB : Bs w b o xs) (hl : xs.length = n) (hn : n < 9223372036854775000) (hq : q < n) (hq8 : q < 8) (hm : ∀ j, j < q → mgs xs j) (hno : ¬ mgs xs q) :
    Calls Tryd.prog 23 #[.slice (some ⟨b, o, none⟩) n cap] w fun e w' => e = .returned (.tuple #[.int .i64 q, .int .i64 22]) ∧ Below w.heap.size w w' := by
  have HB := hid hB
  have HL := hid hl
  have HM := hid hm
  have HNO := hid hno
  have HQ := hid hq
  have HQ8 := hid hq8
  have HN := hid hn
  obtain ⟨t, ht⟩ : ∃ t : Nat, min n 8 = t := ⟨_, rfl⟩
  have eT : min (n : Int) 8 = (t : Int) := by omega
  have qT := hid (show q < t ∧ t ≤ n ∧ t ≤ 8 from by omega)
  clear hB hl hm hno hq hq8 ht hn
  go_enter Tryd.func23, Tryd.ntmps23
  go_upto_region 2 with fail
  go_loopw [4, 8] (fun _ iv wr => ∃ i : Nat, i ≤ q ∧ iv = .int .i64 i ∧ Hid (Below w.heap.size w wr)) (fun _ iv _ => q + 1 - (intOf iv).toNat)
  case atStart => exact ⟨0, Nat.zero_le _, rfl, Below.refl _ _⟩
  case round =>
    obtain ⟨i, hiq, rfl, BW⟩ := hrel
    have i8 : i < 8 := by have := HQ8.out; omega
    have ixs : i < xs.length := by rw [HL.out]; have := HQ.out; omega
    obtain ⟨m, hm⟩ : ∃ m, xs[i] = m := ⟨_, rfl⟩
    obtain ⟨m2, hm2⟩ : ∃ m2, mag[i]'i8 = m2 := ⟨_, rfl⟩
    have cb : wr.cell? ⟨b, o + i, none⟩ = some (.int .u8 ((m : Nat) : Int)) := by
      rw [← hm]
      exact (BW.out.cell (p := ⟨b, o + i, none⟩) (World.block_lt_of_cell? w _ (HB.out i ixs))).trans (HB.out i ixs)
    have IX := hid (fun w' => show (Instr.index 9 (.string ⟨#[66, 82, 83, 66, 79, 79, 75, 49]⟩) (.int .i64 ((i : Nat) : Int))).run Tryd.prog w' = .ok (.int .u8 ((m2 : Nat) : Int)) w' from by
      rw [run_index_string w' 9 _ .i64 _ Tryd.underlying9, dif_pos ⟨by omega, by show ((i : Nat) : Int) < 8; omega⟩]
      rcases below8 i8 with rfl | rfl | rfl | rfl | rfl | rfl | rfl | rfl <;> (rw [← hm2]; rfl))
    have i0' : (0 : Int) ≤ (i : Int) := by omega
    have i1 : (i : Int) < (t : Int) := by have := qT.out; omega
    have i2 : (i : Int) < (n : Int) := by have := qT.out; omega
    have wi : IntKind.i64.wrap ((i : Int) + 1) = ((i + 1 : Nat) : Int) := by rw [IntKind.wrap_i64]; omega
    have EQ := hid (show mgs xs i ↔ m = m2 from by unfold mgs; rw [List.getElem?_eq_getElem ixs, List.getElem?_eq_getElem i8, hm, hm2]; exact Option.some_inj)
    go_upto_region 4 with fail
    have ix := IX.out
    go_big_quiet (fail)
    have BW2 := hid (btr BW.out (bdrew _ nq))
    by_cases c : i = q
    · subst c
      rw [show ((m : Int) != (m2 : Int)) = true from by have := HNO.out; have := EQ.out; simp only [bne_iff_ne, ne_eq, Int.ofNat_inj]; exact fun e => HNO.out (EQ.out.2 e)]
      go_wp2
      go_ret2
      exact ⟨rfl, BW2.out⟩
    · have HLT := hid (show i < q from by omega)
      rw [show ((m : Int) != (m2 : Int)) = false from by have := EQ.out.1 (HM.out i HLT.out); simp [this]]
      go_wp2
      go_roundw
      case rel => exact ⟨i + 1, HLT.out, by go_num, BW2⟩
      case measure => have := HLT.out; simp [intOf]; omega
theorem begin_yes (xs : List Nat) (b o cap n : Nat) (w : World) (hB : Bs w b o xs) (hl : xs.length = n) (hn : n < 9223372036854775000) (hm : ∀ j, j < n → j < 8 → mgs xs j) (A E : Int) (hAE : (n < 31 ∧ A = n ∧ E = 20) ∨ (31 ≤ n ∧ A = 0 ∧ E = 0)) :
    Calls Tryd.prog 23 #[.slice (some ⟨b, o, none⟩) n cap] w fun e w' => e = .returned (.tuple #[.int .i64 A, .int .i64 E]) ∧ Below w.heap.size w w' := by
  have HB := hid hB
  have HL := hid hl
  have HM := hid hm
  have HN := hid hn
  obtain ⟨t, ht⟩ : ∃ t : Nat, min n 8 = t := ⟨_, rfl⟩
  have eT : min (n : Int) 8 = (t : Int) := by omega
  have qT := hid (show t ≤ n ∧ t ≤ 8 from by omega)
  clear hB hl hm ht hn
  go_enter Tryd.func23, Tryd.ntmps23
  go_upto_region 2 with fail
  go_loopw [4, 8] (fun _ iv wr => ∃ i : Nat, i ≤ t ∧ iv = .int .i64 i ∧ Hid (Below w.heap.size w wr)) (fun _ iv _ => t - (intOf iv).toNat)
  case atStart => exact ⟨0, Nat.zero_le _, rfl, Below.refl _ _⟩
  case round =>
    obtain ⟨i, hiq, rfl, BW⟩ := hrel
    by_cases hlt : i < t
    · have i8 : i < 8 := by have := qT.out; omega
      have ixs : i < xs.length := by rw [HL.out]; have := qT.out; omega
      obtain ⟨m, hm⟩ : ∃ m, xs[i] = m := ⟨_, rfl⟩
      have hm2 : mag[i]'i8 = m := by
        have := HM.out i (by rw [← HL.out]; exact ixs) i8
        unfold mgs at this
        rw [List.getElem?_eq_getElem ixs, List.getElem?_eq_getElem i8, hm] at this
        exact (Option.some_inj.1 this).symm
      have cb : wr.cell? ⟨b, o + i, none⟩ = some (.int .u8 ((m : Nat) : Int)) := by
        rw [← hm]
        exact (BW.out.cell (p := ⟨b, o + i, none⟩) (World.block_lt_of_cell? w _ (HB.out i ixs))).trans (HB.out i ixs)
      have ix := (fun w' => show (Instr.index 9 (.string ⟨#[66, 82, 83, 66, 79, 79, 75, 49]⟩) (.int .i64 ((i : Nat) : Int))).run Tryd.prog w' = .ok (.int .u8 ((m : Nat) : Int)) w' from by
        rw [run_index_string w' 9 _ .i64 _ Tryd.underlying9, dif_pos ⟨by omega, by show ((i : Nat) : Int) < 8; omega⟩]
        rcases below8 i8 with rfl | rfl | rfl | rfl | rfl | rfl | rfl | rfl <;> (rw [← hm2]; rfl))
      have i0' : (0 : Int) ≤ (i : Int) := by omega
      have i1 : (i : Int) < (t : Int) := by omega
      have i2 : (i : Int) < (n : Int) := by have := qT.out; omega
      have wi : IntKind.i64.wrap ((i : Int) + 1) = ((i + 1 : Nat) : Int) := by rw [IntKind.wrap_i64]; omega
      have HLT := hid hlt
      clear hm hm2 hlt
      go_upto_region 4 with fail
      go_big_quiet (fail)
      have BW2 := hid (btr BW.out (bdrew _ nq))
      go_wp2
      go_roundw
      case rel => exact ⟨i + 1, HLT.out, by go_num, BW2⟩
      case measure => have := HLT.out; simp [intOf]; omega
    · obtain rfl : i = t := by omega
      have iF : decide ((i : Int) < (i : Int)) = false := by simp
      rcases hAE with ⟨c, rfl, rfl⟩ | ⟨c, rfl, rfl⟩
      · have c1 : (n : Int) < 31 := by omega
        go_wp2
        go_ret2
        exact ⟨rfl, BW.out⟩
      · have c1 : ¬ (n : Int) < 31 := by omega
        go_wp2
        go_ret2
        exact ⟨rfl, BW.out⟩
end Go.Proofs.YtjpkodllemoniaaDoor.Wi
namespace Go.Proofs.YtjpkodllemoniaaDoor.Wi
open Go.RowKit Go.Deep Go.Proofs.YtjpkodllemoniaaDoor.Crc
open Go.Proofs.YtjpkodllemoniaaDoor.Cp (btr ball row_on row_cell row_lt row_ne row6 Kp Or Osz orow ors ors_len ors_app own_form own_empty own_lo own_on bdrew1 bdrew)
set_option linter.unusedVariables false
set_option linter.unusedSimpArgs false
set_option maxHeartbeats 16000000
set_option maxRecDepth 100000
attribute [local go_sem ↓] Go.wp_at_zero Go.wp_at_succ
/-- what the end of bytes tells. -/
def Enz (xs : List Nat) (n D : Nat) (A E : Int) : Prop := (n < D + 4 ∧ A = n ∧ E = 20) ∨ (D + 4 < n ∧ A = (D : Int) + 4 ∧ E = 2) ∨ (n = D + 4 ∧ nat' xs D 4 ≠ crc (xs.take D) ∧ A = D ∧ E = 21) ∨ (n = D + 4 ∧ nat' xs D 4 = crc (xs.take D) ∧ A = 0 ∧ E = 0)
theorem enz_ex (xs : List Nat) (n D : Nat) : ∃ A E, Enz xs n D A E := by
  by_cases h1 : n < D + 4
  · exact ⟨_, _, .inl ⟨h1, rfl, rfl⟩⟩
  by_cases h2 : D + 4 < n
  · exact ⟨_, _, .inr (.inl ⟨h2, rfl, rfl⟩)⟩
  by_cases h3 : nat' xs D 4 = crc (xs.take D)
  · exact ⟨_, _, .inr (.inr (.inr ⟨by omega, h3, rfl, rfl⟩))⟩
  · exact ⟨_, _, .inr (.inr (.inl ⟨by omega, h3, rfl, rfl⟩))⟩
theorem end_any (xs : List Nat) (b o cap n D : Nat) (A E : Int) (w : World) (hx : Oct xs) (hB : Bs w b o xs) (hl : xs.length = n) (hn : n < 9223372036854775000) (hc : n ≤ cap) (hD : D < 9223372036854775000) (hL : Laid w) (hE : Enz xs n D A E) :
    Calls Tryd.prog 25 #[.slice (some ⟨b, o, none⟩) n cap, .int .i64 D] w fun e w' => e = .returned (.tuple #[.int .i64 A, .int .i64 E]) ∧ Below w.heap.size w w' := by
  have HN := hid hn
  have HD := hid hD
  have wD : IntKind.i64.wrap ((D : Int) + 4) = (D : Int) + 4 := by rw [IntKind.wrap_i64]; omega
  rcases hE with ⟨h1, rfl, rfl⟩ | ⟨h1, rfl, rfl⟩ | hE
  · have c1 : (n : Int) < (D : Int) + 4 := by omega
    clear hB hL hx hl
    go_enter Tryd.func25, Tryd.ntmps25
    go_wp2
    go_ret2
    exact ⟨rfl, Below.refl _ _⟩
  · have c1 : ¬ (n : Int) < (D : Int) + 4 := by omega
    have c2 : (D : Int) + 4 < (n : Int) := by omega
    clear hB hL hx hl
    go_enter Tryd.func25, Tryd.ntmps25
    go_wp2
    go_ret2
    exact ⟨rfl, Below.refl _ _⟩
  · have e : n = D + 4 := by rcases hE with h | h <;> exact h.1
    have NB := hid (fun (U : World) (hU : Below w.heap.size w U) => show Calls Tryd.prog 41 #[.slice (some ⟨b, o + D, none⟩) 4 (cap - D)] U fun e w' => e = .returned (.int .u64 (nat' xs D 4 : Nat)) ∧ w' = U from
      number_any ((xs.drop D).take 4) b (o + D) (cap - D) 4 U (by rw [List.length_take, List.length_drop, hl]; omega) (by decide) (oct_take (oct_drop hx D) 4) (bs_take (bs_drop (fun i hi => (hU.cell (p := ⟨b, o + i, none⟩) (World.block_lt_of_cell? w _ (hB i hi))).trans (hB i hi)) D) 4))
    have SM := hid (fun (U : World) (hU : Below w.heap.size w U) => show Calls Tryd.prog 18 #[.slice (some ⟨b, o, none⟩) D cap] U fun e w' => e = .returned (.int .u32 (crc (xs.take D) : Nat)) ∧ w' = U from by
      have h := wsum_some (xs.take D) b o cap U (by rw [List.length_take]; omega) (oct_take hx D) (bs_take (fun i hi => (hU.cell (p := ⟨b, o + i, none⟩) (World.block_lt_of_cell? w _ (hB i hi))).trans (hB i hi)) D) (hL.on hU)
      rw [List.length_take, hl, Nat.min_eq_left (by omega)] at h
      exact h)
    have Y0 := hid (show ∀ U, Below w.heap.size w U → U.cell? ⟨b, o, none⟩ = some (.int .u8 ((nat' xs 0 1 : Nat) : Int)) from fun U hU => by
      rw [nat_one (by omega)]
      have h0 := hB 0 (by omega)
      exact (hU.cell (p := ⟨b, o, none⟩) (World.block_lt_of_cell? w _ h0)).trans h0)
    have LC := crc_lt (xs.take D)
    generalize nat' xs 0 1 = y0 at Y0
    generalize nat' xs D 4 = v0 at NB hE
    generalize crc (xs.take D) = v1 at SM hE LC
    have cw : IntKind.u64.wrap ((v1 : Nat) : Int) = ((v1 : Nat) : Int) := by rw [IntKind.wrap_u64]; omega
    have LCH := hid LC
    have c1 : ¬ (n : Int) < (D : Int) + 4 := by omega
    have c2 : ¬ (D : Int) + 4 < (n : Int) := by omega
    have i1 : (D : Int) ≤ (n : Int) := by omega
    have i2 : (D : Int) ≤ (cap : Int) := by omega
    have i0 : (0 : Int) ≤ (D : Int) := by omega
    have d1 : n - D = 4 := by omega
    have d2 : ¬ cap = D := by omega
    have HE := hid hE
    have BW := hid (Below.refl w.heap.size w)
    clear hB hL hx hl hE e LC
    go_enter Tryd.func25, Tryd.ntmps25
    go_upto_region 6 with fail
    obtain ⟨V1, hV1⟩ : ∃ U, w.drew = U := ⟨_, rfl⟩
    have DV1 := hid (show Below w.heap.size w V1 from by rw [← hV1]; exact bdrew1 _)
    have BV1 := hid (btr (BW.out) DV1.out)
    refine wp_region_held_drew (S := fun U => U.cell? ⟨b, o, none⟩ = some (.int .u8 ((y0 : Nat) : Int))) (by kernel_rfl) ?_ (fun hHeld => ?_)
    · (try dsimp only); rw [hV1]; exact Y0.out _ BV1.out
    rw [hV1] at hHeld ⊢
    clear hV1
    refine' wpAnyH_take (i := 0) (oi := _) (v := _) rfl (by kernel_rfl) (by kernel_rfl) (by kernel_rfl) (fun _ _ _ h => h) (Or.inl ⟨by kernel_rfl, ?_⟩) (by assumption) ?_
    rotate_left
    · (intro w hSw; (try dsimp only at hSw); go_simp; try (with_reducible rfl))
    try simp only [List.getElem_toArray, List.getElem_cons_succ, List.getElem_cons_zero, Act.put, List.setIfInBounds_toArray, List.set_cons_zero, List.set_cons_succ]
    refine' wpAnyH_take (i := 1) (oi := _) (v := _) rfl (by kernel_rfl) (by kernel_rfl) (by kernel_rfl) (fun _ _ _ h => h) (Or.inl ⟨by kernel_rfl, ?_⟩) (by assumption) ?_
    rotate_left
    · (intro w hSw; (try dsimp only at hSw); go_simp; try (with_reducible rfl))
    try simp only [List.getElem_toArray, List.getElem_cons_succ, List.getElem_cons_zero, Act.put, List.setIfInBounds_toArray, List.set_cons_zero, List.set_cons_succ]
    refine' wpAnyH_take (i := 2) (oi := _) (v := _) rfl (by kernel_rfl) (by kernel_rfl) (by kernel_rfl) (fun _ _ _ h => h) (Or.inl ⟨by kernel_rfl, ?_⟩) (by assumption) ?_
    rotate_left
    · (intro w hSw; (try dsimp only at hSw); go_simp; try (with_reducible rfl))
    try simp only [List.getElem_toArray, List.getElem_cons_succ, List.getElem_cons_zero, Act.put, List.setIfInBounds_toArray, List.set_cons_zero, List.set_cons_succ]
    refine' wpAnyH_take (i := 4) (oi := _) (v := _) rfl (by kernel_rfl) (by kernel_rfl) (by kernel_rfl) (fun _ _ _ h => h) (Or.inl ⟨by kernel_rfl, ?_⟩) (by assumption) ?_
    rotate_left
    · (intro w hSw; (try dsimp only at hSw); go_simp; try (with_reducible rfl))
    try simp only [List.getElem_toArray, List.getElem_cons_succ, List.getElem_cons_zero, Act.put, List.setIfInBounds_toArray, List.set_cons_zero, List.set_cons_succ]
    refine' wpAnyH_take (i := 5) (oi := _) (v := _) rfl (by kernel_rfl) (by kernel_rfl) (by kernel_rfl) (fun _ _ _ h => h) (Or.inl ⟨by kernel_rfl, ?_⟩) (by assumption) ?_
    rotate_left
    · (intro w hSw; (try dsimp only at hSw); go_simp; try (with_reducible rfl))
    try simp only [List.getElem_toArray, List.getElem_cons_succ, List.getElem_cons_zero, Act.put, List.setIfInBounds_toArray, List.set_cons_zero, List.set_cons_succ]
    refine' wpAnyH_take (i := 6) (oi := _) (v := _) rfl (by kernel_rfl) (by kernel_rfl) (by kernel_rfl) (fun _ _ _ h => h) (Or.inl ⟨by kernel_rfl, ?_⟩) (by assumption) ?_
    rotate_left
    · (intro w hSw; (try dsimp only at hSw); go_simp; try (with_reducible rfl))
    try simp only [List.getElem_toArray, List.getElem_cons_succ, List.getElem_cons_zero, Act.put, List.setIfInBounds_toArray, List.set_cons_zero, List.set_cons_succ]
    refine wpAnyH_ready (rs := [3]) (by kernel_rfl) (by simp) ?_
    refine (AllReadyH.cons (o := _) rfl (fun K hK => ?_) AllReadyH.nil)
    go_simp
    go_at_call 41
    with_reducible refine (NB.out _ BV1.out).mono ?_
    rintro e _ ⟨rfl, he⟩
    have he := he.symm
    subst he
    (try go_wp2_with fail)
    refine hK.out _ _ ?_ (fun hHeld => ?_)
    · (try dsimp only); exact Y0.out _ BV1.out
    clear hK K
    try simp only [List.getElem_toArray, List.getElem_cons_succ, List.getElem_cons_zero, Act.put, List.setIfInBounds_toArray, List.set_cons_zero, List.set_cons_succ]
    refine wpAnyH_ready (rs := [7]) (by kernel_rfl) (by simp) ?_
    refine (AllReadyH.cons (o := _) rfl (fun K hK => ?_) AllReadyH.nil)
    go_simp
    go_at_call 18
    with_reducible refine (SM.out _ BV1.out).mono ?_
    rintro e _ ⟨rfl, he⟩
    have he := he.symm
    subst he
    (try go_wp2_with fail)
    refine hK.out _ _ ?_ (fun hHeld => ?_)
    · (try dsimp only); exact Y0.out _ BV1.out
    clear hK K
    try simp only [List.getElem_toArray, List.getElem_cons_succ, List.getElem_cons_zero, Act.put, List.setIfInBounds_toArray, List.set_cons_zero, List.set_cons_succ]
    refine' wpAnyH_take (i := 8) (oi := _) (v := _) rfl (by kernel_rfl) (by kernel_rfl) (by kernel_rfl) (fun _ _ _ h => h) (Or.inl ⟨by kernel_rfl, ?_⟩) (by assumption) ?_
    rotate_left
    · (intro w hSw; (try dsimp only at hSw); go_simp; try (with_reducible rfl))
    try simp only [List.getElem_toArray, List.getElem_cons_succ, List.getElem_cons_zero, Act.put, List.setIfInBounds_toArray, List.set_cons_zero, List.set_cons_succ]
    refine' wpAnyH_take (i := 9) (oi := _) (v := _) rfl (by kernel_rfl) (by kernel_rfl) (by kernel_rfl) (fun _ _ _ h => h) (Or.inl ⟨by kernel_rfl, ?_⟩) (by assumption) ?_
    rotate_left
    · (intro w hSw; (try dsimp only at hSw); go_simp; try (with_reducible rfl))
    try simp only [List.getElem_toArray, List.getElem_cons_succ, List.getElem_cons_zero, Act.put, List.setIfInBounds_toArray, List.set_cons_zero, List.set_cons_succ]
    refine' wpAnyH_take (i := 10) (oi := _) (v := _) rfl (by kernel_rfl) (by kernel_rfl) (by kernel_rfl) (fun _ _ _ h => h) (Or.inl ⟨by kernel_rfl, ?_⟩) (by assumption) ?_
    rotate_left
    · (intro w hSw; (try dsimp only at hSw); go_simp; try (with_reducible rfl))
    try simp only [List.getElem_toArray, List.getElem_cons_succ, List.getElem_cons_zero, Act.put, List.setIfInBounds_toArray, List.set_cons_zero, List.set_cons_succ]
    refine wpAnyH_done (by kernel_rfl) ?_ _
    rcases HE.out with ⟨_, h, rfl, rfl⟩ | ⟨_, h, rfl, rfl⟩
    · rw [show ((v0 : Int) != (v1 : Int)) = true from by simp only [bne_iff_ne, ne_eq, Int.ofNat_inj]; exact h]
      go_wp2
      go_ret2
      exact ⟨rfl, BV1.out⟩
    · rw [show ((v0 : Int) != (v1 : Int)) = false from by rw [h]; simp]
      go_wp2
      go_ret2
      exact ⟨rfl, BV1.out⟩
end Go.Proofs.YtjpkodllemoniaaDoor.Wi
