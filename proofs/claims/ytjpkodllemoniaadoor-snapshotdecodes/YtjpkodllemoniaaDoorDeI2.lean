/-
  The document's Decode, of a whole book.
-/
import Derived.Test.YtjpkodllemoniaaDoorDeI
import Derived.Test.YtjpkodllemoniaaDoorCpV
namespace Go.Proofs.YtjpkodllemoniaaDoor.Wi
open Go.RowKit Go.Deep Go.Proofs.YtjpkodllemoniaaDoor.Crc
open Go.Proofs.YtjpkodllemoniaaDoor.Cp (btr ball row_on row_cell row_lt row_frz row_ne set_row row6 Kp Or Osz orow ors ors_len own_form own_empty own_lo own_on own_osz bdrew1 bdrew setRow_kp setRow_below)
open Go.Proofs.YtjpkodllemoniaaDoor.Sr (RtW BoOk Rz)
set_option linter.unusedVariables false
set_option linter.unusedSimpArgs false
set_option maxHeartbeats 16000000
set_option maxRecDepth 100000
attribute [local go_sem ↓] Go.wp_at_zero Go.wp_at_succ
theorem own_kp {base n : Nat} {w w' : World} {v : Value} {xs : List Value} {P : Nat → Prop} (h : w.ownsRow base 46 7 v n xs) (k : Kp P w w') (hne : ∀ g, v.ownBlock = some g → ¬ P g) : w'.ownsRow base 46 7 v n xs :=
  Cp.own_same h (fun g hg => k.obj g (h.lt g hg).2 (hne g hg))
theorem own_osz' {base c k o : Nat} {w : World} {p : Option Addr} {xs : List Nat} (h : w.ownsRow base 46 7 (.slice p k c) k (ors (rdos xs o k))) : Osz w p (rdos xs o k) := by
  have e := rdos_len xs o k
  refine (own_osz (base := base) (c := c) ?_).1
  rw [e]
  exact h
theorem own_nil {base k : Nat} {w : World} {p : Option Addr} {c : Nat} {l : List Value} (h : w.ownsRow base 46 7 (.slice p k c) k l) : p = none → k = 0 ∧ c = 0 := by
  rintro rfl
  rcases h.2 with ⟨e, _⟩ | ⟨g, cap, cur, e, _⟩
  · simp only [Value.slice.injEq, true_and] at e
    exact e
  · simp at e
theorem dvalid' (xs : List Nat) (E : Int) (hE : (Bkok xs ∧ E = 0) ∨ (¬ Bkok xs ∧ E = 120)) (hx : Oct xs) (nb ns cv mv hv sv base c1 c2 : Nat) (p1 p2 : Option Addr) (w : World) (hnb : nat' xs 27 2 = nb) (hns : nat' xs 29 2 = ns) (h1 : nat' xs 8 2 = cv) (h2 : nat' xs 10 1 = mv) (h3 : nat' xs 11 8 = hv) (h4 : nat' xs 19 8 = sv) (k1 : w.ownsRow base 46 7 (.slice p1 nb c1) nb (ors (rdos xs 31 nb))) (k2 : w.ownsRow base 46 7 (.slice p2 ns c2) ns (ors (rdos xs (31 + 29 * nb) ns))) :
    Calls Tryd.prog 19 #[.agg #[.int .i64 cv, .int .i64 mv, .slice p1 nb c1, .slice p2 ns c2, .int .u64 hv, .int .u64 sv]] w fun e w' => e = .returned (.int .i64 E) ∧ Below w.heap.size w w' := by
  have LB := nat_lt hx 27 2
  have LS := nat_lt hx 29 2
  unfold Bkok at hE
  rw [hnb, hns, h1, h2, h3, h4] at hE
  exact Cp.dvalid_any cv mv p1 p2 c1 c2 nb ns (rdos xs 31 nb) (rdos xs (31 + 29 * nb) ns) hv sv E (hE.imp (fun h => ⟨bo_ptr h.1, h.2⟩) (fun h => ⟨fun c => h.1 (bo_ptr c), h.2⟩)) w (own_osz' k1) (own_osz' k2) (own_nil k1) (own_nil k2) (rdos_len _ _ _) (rdos_len _ _ _) (rdos_w hx _ _) (rdos_w hx _ _) (by omega)
theorem rdec_no (xs : List Nat) (b o cap n : Nat) (w : World) (hx : Oct xs) (hB : Bs w b o xs) (hl : xs.length = n) (hn : n < 9223372036854775000) (h8 : 8 ≤ n) (hm : ∀ j, j < 8 → mgs xs j) (nb ns D : Nat) (h31 : 31 ≤ n) (hnb : nat' xs 27 2 = nb) (hns : nat' xs 29 2 = ns) (hD : 31 + 29 * (nb + ns) = D) (hs : n = D + 4) (hc : n ≤ cap) (he : nat' xs D 4 = crc (xs.take D)) (hno : ¬ Bkok xs) :
    Calls Tryd.prog 11 #[.slice (some ⟨b, o, none⟩) n cap] w fun e w' => e = .returned (.tuple #[.agg zb, .int .i64 0, .int .i64 120]) ∧ Below w.heap.size w w' := by
  have HX := hid hx
  have HB := hid hB
  have HL := hid hl
  have HM := hid hm
  have HN := hid hn
  have H8 := hid h8
  clear hB hl hm hn h8 hx
  have c31 : ¬ (n : Int) < 31 := by omega
  have H31 := hid h31
  have LB := hid (show nb < 65536 from by rw [← hnb]; exact nat_lt HX.out 27 2)
  have LS := hid (show ns < 65536 from by rw [← hns]; exact nat_lt HX.out 29 2)
  have HD := hid hD
  have HNB := hid hnb
  have HNS := hid hns
  have wn1 : IntKind.i64.wrap ((nb : Nat) : Int) = ((nb : Nat) : Int) := by have := LB.out; rw [IntKind.wrap_i64]; omega
  have wn2 : IntKind.i64.wrap ((ns : Nat) : Int) = ((ns : Nat) : Int) := by have := LS.out; rw [IntKind.wrap_i64]; omega
  have wa : IntKind.i64.wrap ((nb : Int) + (ns : Int)) = (nb : Int) + (ns : Int) := by have := LB.out; have := LS.out; rw [IntKind.wrap_i64]; omega
  have wb : IntKind.i64.wrap (29 * ((nb : Int) + (ns : Int))) = 29 * ((nb : Int) + (ns : Int)) := by have := LB.out; have := LS.out; rw [IntKind.wrap_i64]; omega
  have wc : IntKind.i64.wrap (31 + 29 * ((nb : Int) + (ns : Int))) = (D : Int) := by have := LB.out; have := LS.out; rw [IntKind.wrap_i64]; omega
  have wD : IntKind.i64.wrap ((D : Int) + 4) = (D : Int) + 4 := by have := LB.out; have := LS.out; rw [IntKind.wrap_i64]; omega
  have RG := hid (fun (U : World) (hU : Below w.heap.size w U) (p q : Nat) (hq : q ≤ 8) (hp : p + q ≤ n) => show Calls Tryd.prog 27 #[.slice (some ⟨b, o, none⟩) n cap, .int .i64 p, .int .i64 q] U fun e w' => e = .returned (.int .u64 (nat' xs p q : Nat)) ∧ w' = U from
    rget_any xs ((xs.drop p).take q) b o cap n p q U (oct_take (oct_drop HX.out p) q) (fun i hi => (hU.cell (p := ⟨b, o + i, none⟩) (World.block_lt_of_cell? w _ (HB.out i hi))).trans (HB.out i hi)) HL.out HN.out rfl (by rw [List.length_take, List.length_drop, HL.out]; omega) hq)
  have TB := hid (fun (U : World) (hU : Below w.heap.size w U) => show Calls Tryd.prog 27 #[.slice (some ⟨b, o, none⟩) n cap, .int .i64 27, .int .i64 2] U fun e w' => e = .returned (.int .u64 (nb : Nat)) ∧ w' = U from by have h := RG.out U hU 27 2 (by decide) (by have := H31.out; omega); rw [HNB.out] at h; exact h)
  have TS := hid (fun (U : World) (hU : Below w.heap.size w U) => show Calls Tryd.prog 27 #[.slice (some ⟨b, o, none⟩) n cap, .int .i64 29, .int .i64 2] U fun e w' => e = .returned (.int .u64 (ns : Nat)) ∧ w' = U from by have h := RG.out U hU 29 2 (by decide) (by have := H31.out; omega); rw [HNS.out] at h; exact h)
  clear h31 hnb hns hD
  have HS := hid hs
  have cD : ¬ (n : Int) < (D : Int) + 4 := by omega
  have cD2 : ¬ (D : Int) + 4 < (n : Int) := by omega
  have i1 : (D : Int) ≤ (n : Int) := by omega
  have i2 : (D : Int) ≤ (cap : Int) := by omega
  have i0 : (0 : Int) ≤ (D : Int) := by omega
  have i10 : (10 : Int) < (n : Int) := by have := H31.out; omega
  clear hs hc
  have TD := hid (fun (U : World) (hU : Below w.heap.size w U) => show Calls Tryd.prog 27 #[.slice (some ⟨b, o, none⟩) n cap, .int .i64 D, .int .i64 4] U fun e w' => e = .returned (.int .u64 (nat' xs D 4 : Nat)) ∧ w' = U from RG.out U hU D 4 (by decide) (by have := HS.out; omega))
  have SM := hid (fun (U : World) (hU : Below w.heap.size w U) => show Calls Tryd.prog 21 #[.slice (some ⟨b, o, none⟩) D cap] U fun e w' => e = .returned (.int .u32 (crc (xs.take D) : Nat)) ∧ w' = U from by
    have h := rsum_some (xs.take D) b o cap U (by rw [List.length_take]; have := HS.out; have := HN.out; have := HL.out; omega) (oct_take HX.out D) (bs_take (fun i hi => (hU.cell (p := ⟨b, o + i, none⟩) (World.block_lt_of_cell? w _ (HB.out i hi))).trans (HB.out i hi)) D)
    rw [List.length_take, HL.out, Nat.min_eq_left (by have := HS.out; omega)] at h
    exact h)
  have Y10 := hid (show ∀ U, Below w.heap.size w U → U.cell? ⟨b, o + 10, none⟩ = some (.int .u8 ((nat' xs 10 1 : Nat) : Int)) from fun U hU => by
    rw [nat_one (by rw [HL.out]; have := H31.out; omega)]
    have h0 := HB.out 10 (by rw [HL.out]; have := H31.out; omega)
    exact (hU.cell (p := ⟨b, o + 10, none⟩) (World.block_lt_of_cell? w _ h0)).trans h0)
  have T8 := hid (fun (U : World) (hU : Below w.heap.size w U) => show Calls Tryd.prog 27 #[.slice (some ⟨b, o, none⟩) n cap, .int .i64 8, .int .i64 2] U fun e w' => e = .returned (.int .u64 (nat' xs 8 2 : Nat)) ∧ Hid (Below U.heap.size U w') from (RG.out U hU 8 2 (by decide) (by have := H31.out; omega)).mono (fun e w' h => ⟨h.1, by rw [h.2]; exact Below.refl _ _⟩))
  have T11 := hid (fun (U : World) (hU : Below w.heap.size w U) => show Calls Tryd.prog 27 #[.slice (some ⟨b, o, none⟩) n cap, .int .i64 11, .int .i64 8] U fun e w' => e = .returned (.int .u64 (nat' xs 11 8 : Nat)) ∧ Hid (Below U.heap.size U w') from (RG.out U hU 11 8 (by decide) (by have := H31.out; omega)).mono (fun e w' h => ⟨h.1, by rw [h.2]; exact Below.refl _ _⟩))
  have T19 := hid (fun (U : World) (hU : Below w.heap.size w U) => show Calls Tryd.prog 27 #[.slice (some ⟨b, o, none⟩) n cap, .int .i64 19, .int .i64 8] U fun e w' => e = .returned (.int .u64 (nat' xs 19 8 : Nat)) ∧ Hid (Below U.heap.size U w') from (RG.out U hU 19 8 (by decide) (by have := H31.out; omega)).mono (fun e w' h => ⟨h.1, by rw [h.2]; exact Below.refl _ _⟩))
  have LC := crc_lt (xs.take D)
  have L8 := nat_lt HX.out 8 2
  have L10 := nat_lt HX.out 10 1
  obtain ⟨v0, hv0⟩ : ∃ z, nat' xs D 4 = z := ⟨_, rfl⟩
  obtain ⟨v1, hv1⟩ : ∃ z, crc (xs.take D) = z := ⟨_, rfl⟩
  obtain ⟨cv, hcv⟩ : ∃ z, nat' xs 8 2 = z := ⟨_, rfl⟩
  obtain ⟨mv, hmv⟩ : ∃ z, nat' xs 10 1 = z := ⟨_, rfl⟩
  obtain ⟨hv, hhv⟩ : ∃ z, nat' xs 11 8 = z := ⟨_, rfl⟩
  obtain ⟨sv, hsv⟩ : ∃ z, nat' xs 19 8 = z := ⟨_, rfl⟩
  rw [hv0] at TD
  rw [hv1] at SM LC
  rw [hcv] at T8 L8
  rw [hmv] at Y10 L10
  rw [hhv] at T11
  rw [hsv] at T19
  have HV0 := hid hv0
  have HV1 := hid hv1
  have HCV := hid hcv
  have HMV := hid hmv
  have HHV := hid hhv
  have HSV := hid hsv
  have cw : IntKind.u64.wrap ((v1 : Nat) : Int) = ((v1 : Nat) : Int) := by rw [IntKind.wrap_u64]; omega
  have cc : IntKind.i64.wrap ((cv : Nat) : Int) = ((cv : Nat) : Int) := by rw [IntKind.wrap_i64]; omega
  have cm : IntKind.i64.wrap ((mv : Nat) : Int) = ((mv : Nat) : Int) := by rw [IntKind.wrap_i64]; omega
  clear LC L8 L10 hv0 hv1 hcv hmv hhv hsv
  rw [HV0.out, HV1.out] at he
  have NE := hid he
  have HNO := hid hno
  clear he hno
  obtain ⟨W1, hW1⟩ : ∃ U, w.alloc (.cells #[.int .i64 0, .int .i64 0, .slice none 0 0, .slice none 0 0, .int .u64 0, .int .u64 0] 27) = U := ⟨_, rfl⟩
  obtain ⟨R1, hR1⟩ : ∃ R, w.heap.size = R := ⟨_, rfl⟩
  have HR1 := hid hR1
  have BA := hid (show Below w.heap.size w W1 from by rw [← hW1]; exact ball _ _)
  have Q0 := hid (show W1.heap[R1]? = some (.cells #[.int .i64 0, .int .i64 0, .slice none 0 0, .slice none 0 0, .int .u64 0, .int .u64 0] 27 (0, 0)) from by rw [← hW1, ← hR1]; exact World.alloc_heap_new _ _)
  go_enter Tryd.func11, Tryd.ntmps11
  go_upto_region 1 with fail
  (try rw [hW1, hR1])
  clear hW1 hR1
  go_upto_region 2 with fail
  go_loopw [5] (fun iv wr => ∃ i : Nat, i ≤ 8 ∧ iv = .int .i64 i ∧ Hid (Below W1.heap.size W1 wr)) (fun iv _ => 8 + 1 - (intOf iv).toNat)
  case atStart => exact ⟨0, Nat.zero_le _, rfl, Below.refl _ _⟩
  case round =>
    obtain ⟨i, hiq, rfl, BW⟩ := hrel
    by_cases c : i < 8
    · have HI := hid c
      have i8 : i < 8 := by exact HI.out
      have ixs : i < xs.length := by rw [HL.out]; have := HI.out; have := H8.out; omega
      obtain ⟨m, hm⟩ : ∃ m, xs[i] = m := ⟨_, rfl⟩
      obtain ⟨m2, hm2⟩ : ∃ m2, mag[i]'i8 = m2 := ⟨_, rfl⟩
      have BWw := hid (btr BA.out BW.out)
      have cb : wr.cell? ⟨b, o + i, none⟩ = some (.int .u8 ((m : Nat) : Int)) := by
        rw [← hm]
        exact (BWw.out.cell (p := ⟨b, o + i, none⟩) (World.block_lt_of_cell? w _ (HB.out i ixs))).trans (HB.out i ixs)
      have IX := hid (fun w' => show (Instr.index 9 (.string ⟨#[66, 82, 83, 66, 79, 79, 75, 49]⟩) (.int .i64 ((i : Nat) : Int))).run Tryd.prog w' = .ok (.int .u8 ((m2 : Nat) : Int)) w' from by
        rw [run_index_string w' 9 _ .i64 _ Tryd.underlying9, dif_pos ⟨by omega, by show ((i : Nat) : Int) < 8; omega⟩]
        rcases below8 i8 with rfl | rfl | rfl | rfl | rfl | rfl | rfl | rfl <;> (rw [← hm2]; rfl))
      have i0' : (0 : Int) ≤ (i : Int) := by omega
      have i1 : (i : Int) < 8 := by omega
      have i2 : (i : Int) < (n : Int) := by have := HI.out; have := H8.out; omega
      have i3 : ((i : Int) == (n : Int)) = false := by simp only [beq_eq_false_iff_ne, ne_eq, Int.ofNat_inj]; have := HI.out; have := H8.out; omega
      have wi : IntKind.i64.wrap ((i : Int) + 1) = ((i + 1 : Nat) : Int) := by rw [IntKind.wrap_i64]; omega
      have EQ := hid (show mgs xs i ↔ m = m2 from by unfold mgs; rw [List.getElem?_eq_getElem ixs, List.getElem?_eq_getElem i8, hm, hm2]; exact Option.some_inj)
      go_upto_region 6 with fail
      have ix := IX.out
      go_big_quiet (fail)
      have BW2 := hid (btr BW.out (bdrew _ nq))
      have HLT := hid (show i < 8 from by omega)
      rw [show ((m : Int) != (m2 : Int)) = false from by have := EQ.out.1 (HM.out i HLT.out); simp [this]]
      go_wp2
      go_roundw
      case rel => exact ⟨i + 1, HLT.out, by go_num, BW2⟩
      case measure => have := HLT.out; simp [intOf]; omega
    · obtain rfl : i = 8 := by omega
      clear c hiq
      have Q1 := hid (row_on Q0.out BW.out)
      have BV := hid (btr BA.out BW.out)
      clear Q0 BA BW
      go_upto_region 10 with fail
      go_upto_region 11 with (first | (go_at_call 27; with_reducible refine (TB.out _ BV.out).mono ?_; rintro e _ ⟨rfl, he⟩; have he := he.symm; subst he) | (go_at_call 27; with_reducible refine (TS.out _ BV.out).mono ?_; rintro e _ ⟨rfl, he⟩; have he := he.symm; subst he))
      go_upto_region 12 with fail
      go_upto_region 16 with fail
      obtain ⟨V51, hV51⟩ : ∃ U, wr.drew = U := ⟨_, rfl⟩
      have DV51 := hid (show Below wr.heap.size wr V51 from by rw [← hV51]; exact bdrew1 _)
      have BV51 := hid (btr (BV.out) DV51.out)
      refine wp_region_held_drew (S := fun U => U.cell? ⟨b, o + 10, none⟩ = some (.int .u8 ((mv : Nat) : Int))) (by kernel_rfl) ?_ (fun hHeld => ?_)
      · (try dsimp only); rw [hV51]; exact Y10.out _ BV51.out
      rw [hV51] at hHeld ⊢
      clear hV51
      refine' wpAnyH_take (i := 0) (oi := _) (v := _) rfl (by kernel_rfl) (by kernel_rfl) (by kernel_rfl) (fun _ _ _ h => h) (Or.inl ⟨by kernel_rfl, ?_⟩) (by assumption) ?_
      rotate_left
      · (intro w hSw; (try dsimp only at hSw); go_simp; try (with_reducible rfl))
      try simp only [List.getElem_toArray, List.getElem_cons_succ, List.getElem_cons_zero, Act.put, List.setIfInBounds_toArray, List.set_cons_zero, List.set_cons_succ]
      refine' wpAnyH_take (i := 1) (oi := _) (v := _) rfl (by kernel_rfl) (by kernel_rfl) (by kernel_rfl) (fun _ _ _ h => h) (Or.inl ⟨by kernel_rfl, ?_⟩) (by assumption) ?_
      rotate_left
      · (intro w hSw; (try dsimp only at hSw); go_simp; try (with_reducible rfl))
      try simp only [List.getElem_toArray, List.getElem_cons_succ, List.getElem_cons_zero, Act.put, List.setIfInBounds_toArray, List.set_cons_zero, List.set_cons_succ]
      refine' wpAnyH_take (i := 3) (oi := _) (v := _) rfl (by kernel_rfl) (by kernel_rfl) (by kernel_rfl) (fun _ _ _ h => h) (Or.inl ⟨by kernel_rfl, ?_⟩) (by assumption) ?_
      rotate_left
      · (intro w hSw; (try dsimp only at hSw); go_simp; try (with_reducible rfl))
      try simp only [List.getElem_toArray, List.getElem_cons_succ, List.getElem_cons_zero, Act.put, List.setIfInBounds_toArray, List.set_cons_zero, List.set_cons_succ]
      refine' wpAnyH_take (i := 4) (oi := _) (v := _) rfl (by kernel_rfl) (by kernel_rfl) (by kernel_rfl) (fun _ _ _ h => h) (Or.inl ⟨by kernel_rfl, ?_⟩) (by assumption) ?_
      rotate_left
      · (intro w hSw; (try dsimp only at hSw); go_simp; try (with_reducible rfl))
      try simp only [List.getElem_toArray, List.getElem_cons_succ, List.getElem_cons_zero, Act.put, List.setIfInBounds_toArray, List.set_cons_zero, List.set_cons_succ]
      refine' wpAnyH_take (i := 5) (oi := _) (v := _) rfl (by kernel_rfl) (by kernel_rfl) (by kernel_rfl) (fun _ _ _ h => h) (Or.inl ⟨by kernel_rfl, ?_⟩) (by assumption) ?_
      rotate_left
      · (intro w hSw; (try dsimp only at hSw); go_simp; try (with_reducible rfl))
      try simp only [List.getElem_toArray, List.getElem_cons_succ, List.getElem_cons_zero, Act.put, List.setIfInBounds_toArray, List.set_cons_zero, List.set_cons_succ]
      refine wpAnyH_ready (rs := [2]) (by kernel_rfl) (by simp) ?_
      refine (AllReadyH.cons (o := _) rfl (fun K hK => ?_) AllReadyH.nil)
      go_simp
      go_at_call 27
      with_reducible refine (TD.out _ BV51.out).mono ?_
      rintro e _ ⟨rfl, he⟩
      have he := he.symm
      subst he
      (try go_wp2_with fail)
      refine hK.out _ _ ?_ (fun hHeld => ?_)
      · (try dsimp only); exact Y10.out _ BV51.out
      clear hK K
      try simp only [List.getElem_toArray, List.getElem_cons_succ, List.getElem_cons_zero, Act.put, List.setIfInBounds_toArray, List.set_cons_zero, List.set_cons_succ]
      refine wpAnyH_ready (rs := [6]) (by kernel_rfl) (by simp) ?_
      refine (AllReadyH.cons (o := _) rfl (fun K hK => ?_) AllReadyH.nil)
      go_simp
      go_at_call 21
      with_reducible refine (SM.out _ BV51.out).mono ?_
      rintro e _ ⟨rfl, he⟩
      have he := he.symm
      subst he
      (try go_wp2_with fail)
      refine hK.out _ _ ?_ (fun hHeld => ?_)
      · (try dsimp only); exact Y10.out _ BV51.out
      clear hK K
      try simp only [List.getElem_toArray, List.getElem_cons_succ, List.getElem_cons_zero, Act.put, List.setIfInBounds_toArray, List.set_cons_zero, List.set_cons_succ]
      refine' wpAnyH_take (i := 7) (oi := _) (v := _) rfl (by kernel_rfl) (by kernel_rfl) (by kernel_rfl) (fun _ _ _ h => h) (Or.inl ⟨by kernel_rfl, ?_⟩) (by assumption) ?_
      rotate_left
      · (intro w hSw; (try dsimp only at hSw); go_simp; try (with_reducible rfl))
      try simp only [List.getElem_toArray, List.getElem_cons_succ, List.getElem_cons_zero, Act.put, List.setIfInBounds_toArray, List.set_cons_zero, List.set_cons_succ]
      refine' wpAnyH_take (i := 8) (oi := _) (v := _) rfl (by kernel_rfl) (by kernel_rfl) (by kernel_rfl) (fun _ _ _ h => h) (Or.inl ⟨by kernel_rfl, ?_⟩) (by assumption) ?_
      rotate_left
      · (intro w hSw; (try dsimp only at hSw); go_simp; try (with_reducible rfl))
      try simp only [List.getElem_toArray, List.getElem_cons_succ, List.getElem_cons_zero, Act.put, List.setIfInBounds_toArray, List.set_cons_zero, List.set_cons_succ]
      refine wpAnyH_done (by kernel_rfl) ?_ _
      rw [show ((v0 : Int) != (v1 : Int)) = false from by have := NE.out; simp [this]]
      have Q2 := hid (row_on Q1.out DV51.out)
      go_upto_region 18 with fail
      refine reg_cut (X := Nat) (fun a t => ((((((((((((((a.put (some 73) (.slice (some ⟨b, o, none⟩) n cap)).put (some 74) (.int .u64 ((cv : Nat) : Int))).put (some 75) (.int .i64 ((cv : Nat) : Int))).put (some 76) (.slice (some ⟨b, o, none⟩) n cap)).put (some 77) (.pointer (some ⟨b, o + 10, none⟩))).put (some 78) (.int .u8 ((mv : Nat) : Int))).put (some 79) (.int .i64 ((mv : Nat) : Int))).put (some 80) (.agg #[.int .i64 ((cv : Nat) : Int), .int .i64 ((mv : Nat) : Int)])).put (some 81) (.slice (some ⟨b, o, none⟩) n cap)).put (some 82) (.int .u64 ((hv : Nat) : Int))).put (some 83) (.slice (some ⟨b, o, none⟩) n cap)).put (some 84) (.int .u64 ((sv : Nat) : Int))).put (some 85) (.agg #[.int .i64 ((cv : Nat) : Int), .int .i64 ((mv : Nat) : Int), .slice none 0 0, .slice none 0 0, .int .u64 ((hv : Nat) : Int), .int .u64 ((sv : Nat) : Int)])).put (some 9) (.pointer (some ⟨t, 0, none⟩)))) (fun t V => Hid (Below V51.heap.size V51 V) ∧ Hid (V.heap[t]? = some (.cells #[.int .i64 ((cv : Nat) : Int), .int .i64 ((mv : Nat) : Int), .slice none 0 0, .slice none 0 0, .int .u64 ((hv : Nat) : Int), .int .u64 ((sv : Nat) : Int)] 27 (0, 0))) ∧ Hid (V51.heap.size ≤ t)) ?_ ?_
      · obtain ⟨V52, hV52⟩ : ∃ U, V51.drew = U := ⟨_, rfl⟩
        have BV52 := hid (show Below V51.heap.size V51 V52 from by rw [← hV52]; exact bdrew1 _)
        refine wp_region_held_drew (S := (fun U => U.cell? ⟨b, o + 10, none⟩ = some (.int .u8 ((mv : Nat) : Int)))) (by kernel_rfl) ?_ (fun hHeld => ?_)
        · (try dsimp only); rw [hV52]; exact Y10.out _ (btr BV51.out BV52.out)
        rw [hV52] at hHeld ⊢
        clear hV52
        refine' wpAnyH_take (i := 0) (oi := _) (v := _) rfl (by kernel_rfl) (by kernel_rfl) (by kernel_rfl) (fun _ _ _ h => h) (Or.inl ⟨by kernel_rfl, ?_⟩) (by assumption) ?_
        rotate_left
        · (intro w hSw; (try dsimp only at hSw); go_simp; try (with_reducible rfl))
        try simp only [List.getElem_toArray, List.getElem_cons_succ, List.getElem_cons_zero, Act.put, List.setIfInBounds_toArray, List.set_cons_zero, List.set_cons_succ]
        refine' wpAnyH_take (i := 3) (oi := _) (v := _) rfl (by kernel_rfl) (by kernel_rfl) (by kernel_rfl) (fun _ _ _ h => h) (Or.inl ⟨by kernel_rfl, ?_⟩) (by assumption) ?_
        rotate_left
        · (intro w hSw; (try dsimp only at hSw); go_simp; try (with_reducible rfl))
        try simp only [List.getElem_toArray, List.getElem_cons_succ, List.getElem_cons_zero, Act.put, List.setIfInBounds_toArray, List.set_cons_zero, List.set_cons_succ]
        refine' wpAnyH_take (i := 4) (oi := _) (v := _) rfl (by kernel_rfl) (by kernel_rfl) (by kernel_rfl) (fun _ _ _ h => h) (Or.inl ⟨by kernel_rfl, ?_⟩) (by assumption) ?_
        rotate_left
        · (intro w hSw; (try dsimp only at hSw); go_simp; try (with_reducible rfl))
        try simp only [List.getElem_toArray, List.getElem_cons_succ, List.getElem_cons_zero, Act.put, List.setIfInBounds_toArray, List.set_cons_zero, List.set_cons_succ]
        refine' wpAnyH_take (i := 5) (oi := _) (v := _) rfl (by kernel_rfl) (by kernel_rfl) (by kernel_rfl) (fun _ _ _ h => h) (Or.inl ⟨by kernel_rfl, ?_⟩) (by assumption) ?_
        rotate_left
        · (intro w hSw; (try dsimp only at hSw); go_simp; try (with_reducible rfl))
        try simp only [List.getElem_toArray, List.getElem_cons_succ, List.getElem_cons_zero, Act.put, List.setIfInBounds_toArray, List.set_cons_zero, List.set_cons_succ]
        refine' wpAnyH_take (i := 6) (oi := _) (v := _) rfl (by kernel_rfl) (by kernel_rfl) (by kernel_rfl) (fun _ _ _ h => h) (Or.inl ⟨by kernel_rfl, ?_⟩) (by assumption) ?_
        rotate_left
        · (intro w hSw; (try dsimp only at hSw); go_simp; try (with_reducible rfl))
        try simp only [List.getElem_toArray, List.getElem_cons_succ, List.getElem_cons_zero, Act.put, List.setIfInBounds_toArray, List.set_cons_zero, List.set_cons_succ]
        refine' wpAnyH_take (i := 8) (oi := _) (v := _) rfl (by kernel_rfl) (by kernel_rfl) (by kernel_rfl) (fun _ _ _ h => h) (Or.inl ⟨by kernel_rfl, ?_⟩) (by assumption) ?_
        rotate_left
        · (intro w hSw; (try dsimp only at hSw); go_simp; try (with_reducible rfl))
        try simp only [List.getElem_toArray, List.getElem_cons_succ, List.getElem_cons_zero, Act.put, List.setIfInBounds_toArray, List.set_cons_zero, List.set_cons_succ]
        refine' wpAnyH_take (i := 10) (oi := _) (v := _) rfl (by kernel_rfl) (by kernel_rfl) (by kernel_rfl) (fun _ _ _ h => h) (Or.inl ⟨by kernel_rfl, ?_⟩) (by assumption) ?_
        rotate_left
        · (intro w hSw; (try dsimp only at hSw); go_simp; try (with_reducible rfl))
        try simp only [List.getElem_toArray, List.getElem_cons_succ, List.getElem_cons_zero, Act.put, List.setIfInBounds_toArray, List.set_cons_zero, List.set_cons_succ]
        refine wpAnyH_ready (rs := [1, 13]) (by kernel_rfl) (by simp) ?_
        refine (AllReadyH.cons (o := _) rfl (fun K hK => ?_) (AllReadyH.cons (o := _) rfl (fun K hK => ?_) AllReadyH.nil))
        · go_simp
          go_at_call 27
          with_reducible refine (T8.out _ (btr BV51.out BV52.out)).mono ?_
          rintro e X53 ⟨rfl, DbX53⟩
          have DX53 := hid (btr BV52.out DbX53.out)
          have UX53 := hid (BV52.out.size)
          (try go_wp2_with fail)
          refine hK.out _ _ ?_ (fun hHeld => ?_)
          · (try dsimp only); exact Y10.out _ (btr BV51.out DX53.out)
          clear hK K
          try simp only [List.getElem_toArray, List.getElem_cons_succ, List.getElem_cons_zero, Act.put, List.setIfInBounds_toArray, List.set_cons_zero, List.set_cons_succ]
          refine' wpAnyH_take (i := 2) (oi := _) (v := _) rfl (by kernel_rfl) (by kernel_rfl) (by kernel_rfl) (fun _ _ _ h => h) (Or.inl ⟨by kernel_rfl, ?_⟩) (by assumption) ?_
          rotate_left
          · (intro w hSw; (try dsimp only at hSw); go_simp; try (with_reducible rfl))
          try simp only [List.getElem_toArray, List.getElem_cons_succ, List.getElem_cons_zero, Act.put, List.setIfInBounds_toArray, List.set_cons_zero, List.set_cons_succ]
          refine' wpAnyH_take (i := 7) (oi := _) (v := _) rfl (by kernel_rfl) (by kernel_rfl) (by kernel_rfl) (fun _ _ _ h => h) (Or.inl ⟨by kernel_rfl, ?_⟩) (by assumption) ?_
          rotate_left
          · (intro w hSw; (try dsimp only at hSw); go_simp; try (with_reducible rfl))
          try simp only [List.getElem_toArray, List.getElem_cons_succ, List.getElem_cons_zero, Act.put, List.setIfInBounds_toArray, List.set_cons_zero, List.set_cons_succ]
          refine wpAnyH_ready (rs := [9, 13]) (by kernel_rfl) (by simp) ?_
          refine (AllReadyH.cons (o := _) rfl (fun K hK => ?_) (AllReadyH.cons (o := _) rfl (fun K hK => ?_) AllReadyH.nil))
          · go_simp
            go_at_call 27
            with_reducible refine (T11.out _ (btr BV51.out DX53.out)).mono ?_
            rintro e X54 ⟨rfl, DbX54⟩
            have DX54 := hid (btr DX53.out DbX54.out)
            have UX54 := hid (DX53.out.size)
            (try go_wp2_with fail)
            refine hK.out _ _ ?_ (fun hHeld => ?_)
            · (try dsimp only); exact Y10.out _ (btr BV51.out DX54.out)
            clear hK K
            try simp only [List.getElem_toArray, List.getElem_cons_succ, List.getElem_cons_zero, Act.put, List.setIfInBounds_toArray, List.set_cons_zero, List.set_cons_succ]
            refine wpAnyH_ready (rs := [11, 13]) (by kernel_rfl) (by simp) ?_
            refine (AllReadyH.cons (o := _) rfl (fun K hK => ?_) (AllReadyH.cons (o := _) rfl (fun K hK => ?_) AllReadyH.nil))
            · go_simp
              go_at_call 27
              with_reducible refine (T19.out _ (btr BV51.out DX54.out)).mono ?_
              rintro e X55 ⟨rfl, DbX55⟩
              have DX55 := hid (btr DX54.out DbX55.out)
              have UX55 := hid (DX54.out.size)
              (try go_wp2_with fail)
              refine hK.out _ _ ?_ (fun hHeld => ?_)
              · (try dsimp only); exact Y10.out _ (btr BV51.out DX55.out)
              clear hK K
              try simp only [List.getElem_toArray, List.getElem_cons_succ, List.getElem_cons_zero, Act.put, List.setIfInBounds_toArray, List.set_cons_zero, List.set_cons_succ]
              refine' wpAnyH_take (i := 12) (oi := _) (v := _) rfl (by kernel_rfl) (by kernel_rfl) (by kernel_rfl) (fun _ _ _ h => h) (Or.inl ⟨by kernel_rfl, ?_⟩) (by assumption) ?_
              rotate_left
              · (intro w hSw; (try dsimp only at hSw); go_simp; try (with_reducible rfl))
              try simp only [List.getElem_toArray, List.getElem_cons_succ, List.getElem_cons_zero, Act.put, List.setIfInBounds_toArray, List.set_cons_zero, List.set_cons_succ]
              refine wpAnyH_ready (rs := [13]) (by kernel_rfl) (by simp) ?_
              refine (AllReadyH.cons (o := _) rfl (fun K hK => ?_) AllReadyH.nil)
              go_simp
              obtain ⟨X56, hX56⟩ : ∃ X, X55.alloc (.cells #[.int .i64 0, .int .i64 0, .slice none 0 0, .slice none 0 0, .int .u64 0, .int .u64 0] 27) = X := ⟨_, rfl⟩
              have bX56 : Below X55.heap.size X55 X56 := by rw [← hX56]; exact ball _ _
              have DX56 := hid (btr DX55.out bX56)
              have zX56 : X56.heap[X55.heap.size]? = some (.cells #[.int .i64 0, .int .i64 0, .slice none 0 0, .slice none 0 0, .int .u64 0, .int .u64 0] 27 (0, 0)) := by rw [← hX56]; exact World.alloc_heap_new _ _
              have yg57 := DX55.out.size
              obtain ⟨g57, hg57⟩ : ∃ g, X55.heap.size = g := ⟨_, rfl⟩
              rw [hg57] at zX56 yg57
              have ZX56 := hid zX56
              rw [hX56, hg57]
              clear hX56 hg57 zX56 bX56
              refine hK.out _ _ ?_ (fun hHeld => ?_)
              · (try dsimp only); exact Y10.out _ (btr BV51.out DX56.out)
              clear hK K
              try simp only [List.getElem_toArray, List.getElem_cons_succ, List.getElem_cons_zero, Act.put, List.setIfInBounds_toArray, List.set_cons_zero, List.set_cons_succ]
              refine wpAnyH_ready (rs := [14]) (by kernel_rfl) (by simp) ?_
              refine (AllReadyH.cons (o := _) rfl (fun K hK => ?_) AllReadyH.nil)
              refine step_store_row (by rfl) 27 (.tmp 9) (.tmp 85) (by rfl) g57 #[.int .i64 ((cv : Nat) : Int), .int .i64 ((mv : Nat) : Int), .slice none 0 0, .slice none 0 0, .int .u64 ((hv : Nat) : Int), .int .u64 ((sv : Nat) : Int)] (by rfl) (by rfl) 27 _ ZX56.out infoB (by rfl) (by simp [Value.oneCell']) ?_
              obtain ⟨Y58, hY58⟩ : ∃ Y, X56.setRow g57 #[.int .i64 ((cv : Nat) : Int), .int .i64 ((mv : Nat) : Int), .slice none 0 0, .slice none 0 0, .int .u64 ((hv : Nat) : Int), .int .u64 ((sv : Nat) : Int)] = Y := ⟨_, rfl⟩
              have KY58 := hid (show Kp (fun j => j = g57) X56 Y58 from by rw [← hY58]; exact setRow_kp _ _ _)
              have AY58 := hid (show Y58.heap[g57]? = some (.cells #[.int .i64 ((cv : Nat) : Int), .int .i64 ((mv : Nat) : Int), .slice none 0 0, .slice none 0 0, .int .u64 ((hv : Nat) : Int), .int .u64 ((sv : Nat) : Int)] 27 (0, 0)) from by rw [← hY58]; exact setRow_heap X56 g57 _ _ 27 (0, 0) ZX56.out)
              have DY58 := hid (show Below V51.heap.size V51 Y58 from by rw [← hY58]; exact setRow_below DX56.out yg57)
              rw [hY58]
              refine hK.out _ _ ?_ (fun hHeld => ?_)
              · (try dsimp only); exact Y10.out _ (btr BV51.out DY58.out)
              clear hK K hY58
              try simp only [List.getElem_toArray, List.getElem_cons_succ, List.getElem_cons_zero, Act.put, List.setIfInBounds_toArray, List.set_cons_zero, List.set_cons_succ]
              refine wpAnyH_done (by kernel_rfl) ?_ _
              exact ⟨g57, by kernel_rfl, DY58, AY58, yg57⟩
            · go_simp
              obtain ⟨X59, hX59⟩ : ∃ X, X54.alloc (.cells #[.int .i64 0, .int .i64 0, .slice none 0 0, .slice none 0 0, .int .u64 0, .int .u64 0] 27) = X := ⟨_, rfl⟩
              have bX59 : Below X54.heap.size X54 X59 := by rw [← hX59]; exact ball _ _
              have DX59 := hid (btr DX54.out bX59)
              have zX59 : X59.heap[X54.heap.size]? = some (.cells #[.int .i64 0, .int .i64 0, .slice none 0 0, .slice none 0 0, .int .u64 0, .int .u64 0] 27 (0, 0)) := by rw [← hX59]; exact World.alloc_heap_new _ _
              have yg60 := DX54.out.size
              obtain ⟨g60, hg60⟩ : ∃ g, X54.heap.size = g := ⟨_, rfl⟩
              rw [hg60] at zX59 yg60
              have ZX59 := hid zX59
              rw [hX59, hg60]
              clear hX59 hg60 zX59 bX59
              refine hK.out _ _ ?_ (fun hHeld => ?_)
              · (try dsimp only); exact Y10.out _ (btr BV51.out DX59.out)
              clear hK K
              try simp only [List.getElem_toArray, List.getElem_cons_succ, List.getElem_cons_zero, Act.put, List.setIfInBounds_toArray, List.set_cons_zero, List.set_cons_succ]
              refine wpAnyH_ready (rs := [11]) (by kernel_rfl) (by simp) ?_
              refine (AllReadyH.cons (o := _) rfl (fun K hK => ?_) AllReadyH.nil)
              go_simp
              go_at_call 27
              with_reducible refine (T19.out _ (btr BV51.out DX59.out)).mono ?_
              rintro e X61 ⟨rfl, DbX61⟩
              have r62 := hid (row_on ZX59.out DbX61.out)
              have DX61 := hid (btr DX59.out DbX61.out)
              have UX61 := hid (DX59.out.size)
              (try go_wp2_with fail)
              refine hK.out _ _ ?_ (fun hHeld => ?_)
              · (try dsimp only); exact Y10.out _ (btr BV51.out DX61.out)
              clear hK K
              try simp only [List.getElem_toArray, List.getElem_cons_succ, List.getElem_cons_zero, Act.put, List.setIfInBounds_toArray, List.set_cons_zero, List.set_cons_succ]
              refine' wpAnyH_take (i := 12) (oi := _) (v := _) rfl (by kernel_rfl) (by kernel_rfl) (by kernel_rfl) (fun _ _ _ h => h) (Or.inl ⟨by kernel_rfl, ?_⟩) (by assumption) ?_
              rotate_left
              · (intro w hSw; (try dsimp only at hSw); go_simp; try (with_reducible rfl))
              try simp only [List.getElem_toArray, List.getElem_cons_succ, List.getElem_cons_zero, Act.put, List.setIfInBounds_toArray, List.set_cons_zero, List.set_cons_succ]
              refine wpAnyH_ready (rs := [14]) (by kernel_rfl) (by simp) ?_
              refine (AllReadyH.cons (o := _) rfl (fun K hK => ?_) AllReadyH.nil)
              refine step_store_row (by rfl) 27 (.tmp 9) (.tmp 85) (by rfl) g60 #[.int .i64 ((cv : Nat) : Int), .int .i64 ((mv : Nat) : Int), .slice none 0 0, .slice none 0 0, .int .u64 ((hv : Nat) : Int), .int .u64 ((sv : Nat) : Int)] (by rfl) (by rfl) 27 _ r62.out infoB (by rfl) (by simp [Value.oneCell']) ?_
              obtain ⟨Y63, hY63⟩ : ∃ Y, X61.setRow g60 #[.int .i64 ((cv : Nat) : Int), .int .i64 ((mv : Nat) : Int), .slice none 0 0, .slice none 0 0, .int .u64 ((hv : Nat) : Int), .int .u64 ((sv : Nat) : Int)] = Y := ⟨_, rfl⟩
              have KY63 := hid (show Kp (fun j => j = g60) X61 Y63 from by rw [← hY63]; exact setRow_kp _ _ _)
              have AY63 := hid (show Y63.heap[g60]? = some (.cells #[.int .i64 ((cv : Nat) : Int), .int .i64 ((mv : Nat) : Int), .slice none 0 0, .slice none 0 0, .int .u64 ((hv : Nat) : Int), .int .u64 ((sv : Nat) : Int)] 27 (0, 0)) from by rw [← hY63]; exact setRow_heap X61 g60 _ _ 27 (0, 0) r62.out)
              have DY63 := hid (show Below V51.heap.size V51 Y63 from by rw [← hY63]; exact setRow_below DX61.out yg60)
              rw [hY63]
              refine hK.out _ _ ?_ (fun hHeld => ?_)
              · (try dsimp only); exact Y10.out _ (btr BV51.out DY63.out)
              clear hK K hY63
              try simp only [List.getElem_toArray, List.getElem_cons_succ, List.getElem_cons_zero, Act.put, List.setIfInBounds_toArray, List.set_cons_zero, List.set_cons_succ]
              refine wpAnyH_done (by kernel_rfl) ?_ _
              exact ⟨g60, by kernel_rfl, DY63, AY63, yg60⟩
          · go_simp
            obtain ⟨X64, hX64⟩ : ∃ X, X53.alloc (.cells #[.int .i64 0, .int .i64 0, .slice none 0 0, .slice none 0 0, .int .u64 0, .int .u64 0] 27) = X := ⟨_, rfl⟩
            have bX64 : Below X53.heap.size X53 X64 := by rw [← hX64]; exact ball _ _
            have DX64 := hid (btr DX53.out bX64)
            have zX64 : X64.heap[X53.heap.size]? = some (.cells #[.int .i64 0, .int .i64 0, .slice none 0 0, .slice none 0 0, .int .u64 0, .int .u64 0] 27 (0, 0)) := by rw [← hX64]; exact World.alloc_heap_new _ _
            have yg65 := DX53.out.size
            obtain ⟨g65, hg65⟩ : ∃ g, X53.heap.size = g := ⟨_, rfl⟩
            rw [hg65] at zX64 yg65
            have ZX64 := hid zX64
            rw [hX64, hg65]
            clear hX64 hg65 zX64 bX64
            refine hK.out _ _ ?_ (fun hHeld => ?_)
            · (try dsimp only); exact Y10.out _ (btr BV51.out DX64.out)
            clear hK K
            try simp only [List.getElem_toArray, List.getElem_cons_succ, List.getElem_cons_zero, Act.put, List.setIfInBounds_toArray, List.set_cons_zero, List.set_cons_succ]
            refine wpAnyH_ready (rs := [9]) (by kernel_rfl) (by simp) ?_
            refine (AllReadyH.cons (o := _) rfl (fun K hK => ?_) AllReadyH.nil)
            go_simp
            go_at_call 27
            with_reducible refine (T11.out _ (btr BV51.out DX64.out)).mono ?_
            rintro e X66 ⟨rfl, DbX66⟩
            have r67 := hid (row_on ZX64.out DbX66.out)
            have DX66 := hid (btr DX64.out DbX66.out)
            have UX66 := hid (DX64.out.size)
            (try go_wp2_with fail)
            refine hK.out _ _ ?_ (fun hHeld => ?_)
            · (try dsimp only); exact Y10.out _ (btr BV51.out DX66.out)
            clear hK K
            try simp only [List.getElem_toArray, List.getElem_cons_succ, List.getElem_cons_zero, Act.put, List.setIfInBounds_toArray, List.set_cons_zero, List.set_cons_succ]
            refine wpAnyH_ready (rs := [11]) (by kernel_rfl) (by simp) ?_
            refine (AllReadyH.cons (o := _) rfl (fun K hK => ?_) AllReadyH.nil)
            go_simp
            go_at_call 27
            with_reducible refine (T19.out _ (btr BV51.out DX66.out)).mono ?_
            rintro e X68 ⟨rfl, DbX68⟩
            have r69 := hid (row_on r67.out DbX68.out)
            have DX68 := hid (btr DX66.out DbX68.out)
            have UX68 := hid (DX66.out.size)
            (try go_wp2_with fail)
            refine hK.out _ _ ?_ (fun hHeld => ?_)
            · (try dsimp only); exact Y10.out _ (btr BV51.out DX68.out)
            clear hK K
            try simp only [List.getElem_toArray, List.getElem_cons_succ, List.getElem_cons_zero, Act.put, List.setIfInBounds_toArray, List.set_cons_zero, List.set_cons_succ]
            refine' wpAnyH_take (i := 12) (oi := _) (v := _) rfl (by kernel_rfl) (by kernel_rfl) (by kernel_rfl) (fun _ _ _ h => h) (Or.inl ⟨by kernel_rfl, ?_⟩) (by assumption) ?_
            rotate_left
            · (intro w hSw; (try dsimp only at hSw); go_simp; try (with_reducible rfl))
            try simp only [List.getElem_toArray, List.getElem_cons_succ, List.getElem_cons_zero, Act.put, List.setIfInBounds_toArray, List.set_cons_zero, List.set_cons_succ]
            refine wpAnyH_ready (rs := [14]) (by kernel_rfl) (by simp) ?_
            refine (AllReadyH.cons (o := _) rfl (fun K hK => ?_) AllReadyH.nil)
            refine step_store_row (by rfl) 27 (.tmp 9) (.tmp 85) (by rfl) g65 #[.int .i64 ((cv : Nat) : Int), .int .i64 ((mv : Nat) : Int), .slice none 0 0, .slice none 0 0, .int .u64 ((hv : Nat) : Int), .int .u64 ((sv : Nat) : Int)] (by rfl) (by rfl) 27 _ r69.out infoB (by rfl) (by simp [Value.oneCell']) ?_
            obtain ⟨Y70, hY70⟩ : ∃ Y, X68.setRow g65 #[.int .i64 ((cv : Nat) : Int), .int .i64 ((mv : Nat) : Int), .slice none 0 0, .slice none 0 0, .int .u64 ((hv : Nat) : Int), .int .u64 ((sv : Nat) : Int)] = Y := ⟨_, rfl⟩
            have KY70 := hid (show Kp (fun j => j = g65) X68 Y70 from by rw [← hY70]; exact setRow_kp _ _ _)
            have AY70 := hid (show Y70.heap[g65]? = some (.cells #[.int .i64 ((cv : Nat) : Int), .int .i64 ((mv : Nat) : Int), .slice none 0 0, .slice none 0 0, .int .u64 ((hv : Nat) : Int), .int .u64 ((sv : Nat) : Int)] 27 (0, 0)) from by rw [← hY70]; exact setRow_heap X68 g65 _ _ 27 (0, 0) r69.out)
            have DY70 := hid (show Below V51.heap.size V51 Y70 from by rw [← hY70]; exact setRow_below DX68.out yg65)
            rw [hY70]
            refine hK.out _ _ ?_ (fun hHeld => ?_)
            · (try dsimp only); exact Y10.out _ (btr BV51.out DY70.out)
            clear hK K hY70
            try simp only [List.getElem_toArray, List.getElem_cons_succ, List.getElem_cons_zero, Act.put, List.setIfInBounds_toArray, List.set_cons_zero, List.set_cons_succ]
            refine wpAnyH_done (by kernel_rfl) ?_ _
            exact ⟨g65, by kernel_rfl, DY70, AY70, yg65⟩
        · go_simp
          obtain ⟨X71, hX71⟩ : ∃ X, V52.alloc (.cells #[.int .i64 0, .int .i64 0, .slice none 0 0, .slice none 0 0, .int .u64 0, .int .u64 0] 27) = X := ⟨_, rfl⟩
          have bX71 : Below V52.heap.size V52 X71 := by rw [← hX71]; exact ball _ _
          have DX71 := hid (btr BV52.out bX71)
          have zX71 : X71.heap[V52.heap.size]? = some (.cells #[.int .i64 0, .int .i64 0, .slice none 0 0, .slice none 0 0, .int .u64 0, .int .u64 0] 27 (0, 0)) := by rw [← hX71]; exact World.alloc_heap_new _ _
          have yg72 := BV52.out.size
          obtain ⟨g72, hg72⟩ : ∃ g, V52.heap.size = g := ⟨_, rfl⟩
          rw [hg72] at zX71 yg72
          have ZX71 := hid zX71
          rw [hX71, hg72]
          clear hX71 hg72 zX71 bX71
          refine hK.out _ _ ?_ (fun hHeld => ?_)
          · (try dsimp only); exact Y10.out _ (btr BV51.out DX71.out)
          clear hK K
          try simp only [List.getElem_toArray, List.getElem_cons_succ, List.getElem_cons_zero, Act.put, List.setIfInBounds_toArray, List.set_cons_zero, List.set_cons_succ]
          refine wpAnyH_ready (rs := [1]) (by kernel_rfl) (by simp) ?_
          refine (AllReadyH.cons (o := _) rfl (fun K hK => ?_) AllReadyH.nil)
          go_simp
          go_at_call 27
          with_reducible refine (T8.out _ (btr BV51.out DX71.out)).mono ?_
          rintro e X73 ⟨rfl, DbX73⟩
          have r74 := hid (row_on ZX71.out DbX73.out)
          have DX73 := hid (btr DX71.out DbX73.out)
          have UX73 := hid (DX71.out.size)
          (try go_wp2_with fail)
          refine hK.out _ _ ?_ (fun hHeld => ?_)
          · (try dsimp only); exact Y10.out _ (btr BV51.out DX73.out)
          clear hK K
          try simp only [List.getElem_toArray, List.getElem_cons_succ, List.getElem_cons_zero, Act.put, List.setIfInBounds_toArray, List.set_cons_zero, List.set_cons_succ]
          refine' wpAnyH_take (i := 2) (oi := _) (v := _) rfl (by kernel_rfl) (by kernel_rfl) (by kernel_rfl) (fun _ _ _ h => h) (Or.inl ⟨by kernel_rfl, ?_⟩) (by assumption) ?_
          rotate_left
          · (intro w hSw; (try dsimp only at hSw); go_simp; try (with_reducible rfl))
          try simp only [List.getElem_toArray, List.getElem_cons_succ, List.getElem_cons_zero, Act.put, List.setIfInBounds_toArray, List.set_cons_zero, List.set_cons_succ]
          refine' wpAnyH_take (i := 7) (oi := _) (v := _) rfl (by kernel_rfl) (by kernel_rfl) (by kernel_rfl) (fun _ _ _ h => h) (Or.inl ⟨by kernel_rfl, ?_⟩) (by assumption) ?_
          rotate_left
          · (intro w hSw; (try dsimp only at hSw); go_simp; try (with_reducible rfl))
          try simp only [List.getElem_toArray, List.getElem_cons_succ, List.getElem_cons_zero, Act.put, List.setIfInBounds_toArray, List.set_cons_zero, List.set_cons_succ]
          refine wpAnyH_ready (rs := [9]) (by kernel_rfl) (by simp) ?_
          refine (AllReadyH.cons (o := _) rfl (fun K hK => ?_) AllReadyH.nil)
          go_simp
          go_at_call 27
          with_reducible refine (T11.out _ (btr BV51.out DX73.out)).mono ?_
          rintro e X75 ⟨rfl, DbX75⟩
          have r76 := hid (row_on r74.out DbX75.out)
          have DX75 := hid (btr DX73.out DbX75.out)
          have UX75 := hid (DX73.out.size)
          (try go_wp2_with fail)
          refine hK.out _ _ ?_ (fun hHeld => ?_)
          · (try dsimp only); exact Y10.out _ (btr BV51.out DX75.out)
          clear hK K
          try simp only [List.getElem_toArray, List.getElem_cons_succ, List.getElem_cons_zero, Act.put, List.setIfInBounds_toArray, List.set_cons_zero, List.set_cons_succ]
          refine wpAnyH_ready (rs := [11]) (by kernel_rfl) (by simp) ?_
          refine (AllReadyH.cons (o := _) rfl (fun K hK => ?_) AllReadyH.nil)
          go_simp
          go_at_call 27
          with_reducible refine (T19.out _ (btr BV51.out DX75.out)).mono ?_
          rintro e X77 ⟨rfl, DbX77⟩
          have r78 := hid (row_on r76.out DbX77.out)
          have DX77 := hid (btr DX75.out DbX77.out)
          have UX77 := hid (DX75.out.size)
          (try go_wp2_with fail)
          refine hK.out _ _ ?_ (fun hHeld => ?_)
          · (try dsimp only); exact Y10.out _ (btr BV51.out DX77.out)
          clear hK K
          try simp only [List.getElem_toArray, List.getElem_cons_succ, List.getElem_cons_zero, Act.put, List.setIfInBounds_toArray, List.set_cons_zero, List.set_cons_succ]
          refine' wpAnyH_take (i := 12) (oi := _) (v := _) rfl (by kernel_rfl) (by kernel_rfl) (by kernel_rfl) (fun _ _ _ h => h) (Or.inl ⟨by kernel_rfl, ?_⟩) (by assumption) ?_
          rotate_left
          · (intro w hSw; (try dsimp only at hSw); go_simp; try (with_reducible rfl))
          try simp only [List.getElem_toArray, List.getElem_cons_succ, List.getElem_cons_zero, Act.put, List.setIfInBounds_toArray, List.set_cons_zero, List.set_cons_succ]
          refine wpAnyH_ready (rs := [14]) (by kernel_rfl) (by simp) ?_
          refine (AllReadyH.cons (o := _) rfl (fun K hK => ?_) AllReadyH.nil)
          refine step_store_row (by rfl) 27 (.tmp 9) (.tmp 85) (by rfl) g72 #[.int .i64 ((cv : Nat) : Int), .int .i64 ((mv : Nat) : Int), .slice none 0 0, .slice none 0 0, .int .u64 ((hv : Nat) : Int), .int .u64 ((sv : Nat) : Int)] (by rfl) (by rfl) 27 _ r78.out infoB (by rfl) (by simp [Value.oneCell']) ?_
          obtain ⟨Y79, hY79⟩ : ∃ Y, X77.setRow g72 #[.int .i64 ((cv : Nat) : Int), .int .i64 ((mv : Nat) : Int), .slice none 0 0, .slice none 0 0, .int .u64 ((hv : Nat) : Int), .int .u64 ((sv : Nat) : Int)] = Y := ⟨_, rfl⟩
          have KY79 := hid (show Kp (fun j => j = g72) X77 Y79 from by rw [← hY79]; exact setRow_kp _ _ _)
          have AY79 := hid (show Y79.heap[g72]? = some (.cells #[.int .i64 ((cv : Nat) : Int), .int .i64 ((mv : Nat) : Int), .slice none 0 0, .slice none 0 0, .int .u64 ((hv : Nat) : Int), .int .u64 ((sv : Nat) : Int)] 27 (0, 0)) from by rw [← hY79]; exact setRow_heap X77 g72 _ _ 27 (0, 0) r78.out)
          have DY79 := hid (show Below V51.heap.size V51 Y79 from by rw [← hY79]; exact setRow_below DX77.out yg72)
          rw [hY79]
          refine hK.out _ _ ?_ (fun hHeld => ?_)
          · (try dsimp only); exact Y10.out _ (btr BV51.out DY79.out)
          clear hK K hY79
          try simp only [List.getElem_toArray, List.getElem_cons_succ, List.getElem_cons_zero, Act.put, List.setIfInBounds_toArray, List.set_cons_zero, List.set_cons_succ]
          refine wpAnyH_done (by kernel_rfl) ?_ _
          exact ⟨g72, by kernel_rfl, DY79, AY79, yg72⟩
      rintro R3 W2 ⟨BW2, Q3, LR⟩
      have Q4 := hid (row_on Q2.out BW2.out)
      have BV2 := hid (btr BV51.out BW2.out)
      have BVW := hid BV2.out
      have NR := hid (show ¬ R3 = R1 ∧ w.heap.size ≤ R3 from by have := row_lt Q2.out; have := LR.out; have := BV51.out.size; refine ⟨?_, ?_⟩ <;> omega)
      clear Q1 Q2 BW2 LR TD SM T8 T11 T19 Y10 TB TS BV
      try simp only [List.getElem_toArray, List.getElem_cons_succ, List.getElem_cons_zero, Act.put, List.setIfInBounds_toArray, List.set_cons_zero, List.set_cons_succ]
      have CO1 := hid (rrorders_any xs b o cap n 31 nb W2 HX.out (fun i hi => (BV2.out.cell (p := ⟨b, o + i, none⟩) (World.block_lt_of_cell? w _ (HB.out i hi))).trans (HB.out i hi)) HL.out HN.out (by have := HS.out; have := HD.out; omega) (by have := LB.out; omega))
      rw [show ((31 : Nat) : Int) = 31 from rfl] at CO1
      go_upto_region 20 with (go_at_call 28; with_reducible refine CO1.out.mono ?_; rintro e W3 ⟨v1, rfl, h1, h2⟩; obtain ⟨p1, c1, rfl⟩ := own_form h1; have O1 := hid h1; have B3 := hid h2; clear h1 h2; obtain ⟨y0, y1, y2, y3, y4, y5⟩ := row6 (row_on Q3.out B3.out); have z1 := row_frz (row_on Q3.out B3.out) 2)
      obtain ⟨U3, hU3⟩ : ∃ U, W3.setCell ⟨R3, 2, none⟩ (.slice p1 nb c1) = U := ⟨_, rfl⟩
      have S3 := hid (show Kp (fun b => b = R3) W3 U3 from by rw [← hU3]; exact Kp.set _ _ _ _)
      have Q5 := hid (show U3.heap[R3]? = some (.cells #[.int .i64 ((cv : Nat) : Int), .int .i64 ((mv : Nat) : Int), .slice p1 nb c1, .slice none 0 0, .int .u64 ((hv : Nat) : Int), .int .u64 ((sv : Nat) : Int)] 27 (0, 0)) from by rw [← hU3]; exact set_row _ (row_on Q3.out B3.out))
      have Q6 := hid (S3.out.row (row_on Q4.out B3.out) (fun e => NR.out.1 e.symm))
      have O2 := hid (own_kp O1.out S3.out (fun g hg => Cp.own_ne O1.out (row_on Q3.out B3.out) g hg))
      have BVa := hid (BV2.out.trans (B3.out.mono BV2.out.size))
      have BV3 := hid (BVa.out.trans (S3.out.below BVa.out.size (fun q hq e => by have := NR.out.2; omega)))
      (try rw [hU3])
      clear hU3 y0 y1 y2 y3 y4 y5 z1 CO1 Q3 Q4 O1 B3 S3 BV2 BVa
      have w29 : IntKind.i64.wrap (29 * (nb : Int)) = 29 * (nb : Int) := by have := LB.out; rw [IntKind.wrap_i64]; omega
      obtain ⟨P2, hP2⟩ : ∃ z, 31 + 29 * nb = z := ⟨_, rfl⟩
      have HP2 := hid hP2
      have w31 : IntKind.i64.wrap (31 + 29 * (nb : Int)) = (P2 : Int) := by have := LB.out; rw [IntKind.wrap_i64]; omega
      have CO2 := hid (rrorders_any xs b o cap n (31 + 29 * nb) ns U3 HX.out (fun i hi => (BV3.out.cell (p := ⟨b, o + i, none⟩) (World.block_lt_of_cell? w _ (HB.out i hi))).trans (HB.out i hi)) HL.out HN.out (by have := HS.out; have := HD.out; omega) (by have := LS.out; omega))
      rw [hP2] at CO2
      clear hP2
      go_upto_region 21 with (go_at_call 28; with_reducible refine CO2.out.mono ?_; rintro e W4 ⟨v2, rfl, h1, h2⟩; obtain ⟨p2, c2, rfl⟩ := own_form h1; have O3 := hid h1; have B4 := hid h2; clear h1 h2; obtain ⟨y0, y1, y2, y3, y4, y5⟩ := row6 (row_on Q5.out B4.out); have z1 := row_frz (row_on Q5.out B4.out) 3)
      obtain ⟨U4, hU4⟩ : ∃ U, W4.setCell ⟨R3, 3, none⟩ (.slice p2 ns c2) = U := ⟨_, rfl⟩
      have S3 := hid (show Kp (fun b => b = R3) W4 U4 from by rw [← hU4]; exact Kp.set _ _ _ _)
      have Q7 := hid (show U4.heap[R3]? = some (.cells #[.int .i64 ((cv : Nat) : Int), .int .i64 ((mv : Nat) : Int), .slice p1 nb c1, .slice p2 ns c2, .int .u64 ((hv : Nat) : Int), .int .u64 ((sv : Nat) : Int)] 27 (0, 0)) from by rw [← hU4]; exact set_row _ (row_on Q5.out B4.out))
      have Q8 := hid (S3.out.row (row_on Q6.out B4.out) (fun e => NR.out.1 e.symm))
      have O4 := hid (own_kp (own_on O2.out B4.out) S3.out (fun g hg => Cp.own_ne (own_on O2.out B4.out) (row_on Q5.out B4.out) g hg))
      have O5 := hid (own_kp O3.out S3.out (fun g hg => Cp.own_ne O3.out (row_on Q5.out B4.out) g hg))
      have BVa := hid (BV3.out.trans (B4.out.mono BV3.out.size))
      have BV4 := hid (BVa.out.trans (S3.out.below BVa.out.size (fun q hq e => by have := NR.out.2; omega)))
      have L3 := hid (show w.heap.size ≤ U3.heap.size from BV3.out.size)
      have L2 := hid (show w.heap.size ≤ W2.heap.size from by have := BV3.out.size; first | omega | exact BVW.out.size)
      (try rw [hU4])
      clear hU4 y0 y1 y2 y3 y4 y5 z1 CO2 Q5 Q6 O2 O3 B4 S3 BV3 BVa
      have O5 := hid (Cp.own_base O5.out L3.out)
      rw [← HP2.out] at O5
      have O4 := hid (Cp.own_base O4.out L2.out)
      have CV := hid (dvalid' xs 120 (.inr ⟨HNO.out, rfl⟩) HX.out nb ns cv mv hv sv w.heap.size c1 c2 p1 p2 U4 HNB.out HNS.out HCV.out HMV.out HHV.out HSV.out O4.out O5.out)
      obtain ⟨y0, y1, y2, y3, y4, y5⟩ := row6 Q7.out
      go_upto_region 22 with (go_at_call 19; with_reducible refine CV.out.mono ?_; rintro e W5 ⟨rfl, h1⟩; have B5 := hid h1; clear h1)
      clear y0 y1 y2 y3 y4 y5
      obtain ⟨y0, y1, y2, y3, y4, y5⟩ := row6 (row_on Q7.out B5.out)
      have Q9 := hid (row_on Q8.out B5.out)
      have BV5 := hid (BV4.out.trans (B5.out.mono BV4.out.size))
      have O6 := hid (own_on O4.out B5.out)
      have O7 := hid (own_on O5.out B5.out)
      obtain ⟨x0, x1, x2, x3, x4, x5⟩ := row6 Q9.out
      have g0 := row_frz Q9.out 0
      have g1 := row_frz Q9.out 1
      have g2 := row_frz Q9.out 2
      have g3 := row_frz Q9.out 3
      have g4 := row_frz Q9.out 4
      have g5 := row_frz Q9.out 5
      obtain ⟨Y, hY⟩ : ∃ Y, (((((((W5).setCell ⟨R1, 0, none⟩ (.int .i64 0)).setCell ⟨R1, 1, none⟩ (.int .i64 0)).setCell ⟨R1, 2, none⟩ (.slice none 0 0)).setCell ⟨R1, 3, none⟩ (.slice none 0 0)).setCell ⟨R1, 4, none⟩ (.int .u64 0)).setCell ⟨R1, 5, none⟩ (.int .u64 0)) = Y := ⟨_, rfl⟩
      have KY := hid (show Kp (fun b => b = R1) (W5) Y from by rw [← hY]; exact chain6_kp _ _ _ _ _ _ _ _)
      have QY := hid (show Y.heap[R1]? = some (.cells #[.int .i64 0, .int .i64 0, .slice none 0 0, .slice none 0 0, .int .u64 0, .int .u64 0] 27 (0, 0)) from by rw [← hY]; exact chain6 _ _ _ _ _ _ Q9.out)
      go_wp2
      (try rw [hY])
      exact bodyPost_ret (res3 _ 2 3 4 Tryd.results11 _ _ R1 #[.int .i64 0, .int .i64 0, .slice none 0 0, .slice none 0 0, .int .u64 0, .int .u64 0] _ _ (by rfl) (by rfl) (by rfl) QY.out infoB) rfl ⟨rfl, (BV5.out.trans (KY.out.below BV5.out.size (fun q hq e => by have := HR1.out; omega)))⟩
theorem rdec_yes (xs : List Nat) (b o cap n : Nat) (w : World) (hx : Oct xs) (hB : Bs w b o xs) (hl : xs.length = n) (hn : n < 9223372036854775000) (h8 : 8 ≤ n) (hm : ∀ j, j < 8 → mgs xs j) (nb ns D : Nat) (h31 : 31 ≤ n) (hnb : nat' xs 27 2 = nb) (hns : nat' xs 29 2 = ns) (hD : 31 + 29 * (nb + ns) = D) (hs : n = D + 4) (hc : n ≤ cap) (he : nat' xs D 4 = crc (xs.take D)) (hyes : Bkok xs) :
    Calls Tryd.prog 11 #[.slice (some ⟨b, o, none⟩) n cap] w fun e w' => ∃ p1 c1 p2 c2, e = .returned (.tuple #[.agg #[.int .i64 (nat' xs 8 2 : Nat), .int .i64 (nat' xs 10 1 : Nat), .slice p1 nb c1, .slice p2 ns c2, .int .u64 (nat' xs 11 8 : Nat), .int .u64 (nat' xs 19 8 : Nat)], .int .i64 0, .int .i64 0]) ∧ w'.ownsRow w.heap.size 46 7 (.slice p1 nb c1) nb (ors (rdos xs 31 nb)) ∧ w'.ownsRow w.heap.size 46 7 (.slice p2 ns c2) ns (ors (rdos xs (31 + 29 * nb) ns)) ∧ Below w.heap.size w w' := by
  have HX := hid hx
  have HB := hid hB
  have HL := hid hl
  have HM := hid hm
  have HN := hid hn
  have H8 := hid h8
  clear hB hl hm hn h8 hx
  have c31 : ¬ (n : Int) < 31 := by omega
  have H31 := hid h31
  have LB := hid (show nb < 65536 from by rw [← hnb]; exact nat_lt HX.out 27 2)
  have LS := hid (show ns < 65536 from by rw [← hns]; exact nat_lt HX.out 29 2)
  have HD := hid hD
  have HNB := hid hnb
  have HNS := hid hns
  have wn1 : IntKind.i64.wrap ((nb : Nat) : Int) = ((nb : Nat) : Int) := by have := LB.out; rw [IntKind.wrap_i64]; omega
  have wn2 : IntKind.i64.wrap ((ns : Nat) : Int) = ((ns : Nat) : Int) := by have := LS.out; rw [IntKind.wrap_i64]; omega
  have wa : IntKind.i64.wrap ((nb : Int) + (ns : Int)) = (nb : Int) + (ns : Int) := by have := LB.out; have := LS.out; rw [IntKind.wrap_i64]; omega
  have wb : IntKind.i64.wrap (29 * ((nb : Int) + (ns : Int))) = 29 * ((nb : Int) + (ns : Int)) := by have := LB.out; have := LS.out; rw [IntKind.wrap_i64]; omega
  have wc : IntKind.i64.wrap (31 + 29 * ((nb : Int) + (ns : Int))) = (D : Int) := by have := LB.out; have := LS.out; rw [IntKind.wrap_i64]; omega
  have wD : IntKind.i64.wrap ((D : Int) + 4) = (D : Int) + 4 := by have := LB.out; have := LS.out; rw [IntKind.wrap_i64]; omega
  have RG := hid (fun (U : World) (hU : Below w.heap.size w U) (p q : Nat) (hq : q ≤ 8) (hp : p + q ≤ n) => show Calls Tryd.prog 27 #[.slice (some ⟨b, o, none⟩) n cap, .int .i64 p, .int .i64 q] U fun e w' => e = .returned (.int .u64 (nat' xs p q : Nat)) ∧ w' = U from
    rget_any xs ((xs.drop p).take q) b o cap n p q U (oct_take (oct_drop HX.out p) q) (fun i hi => (hU.cell (p := ⟨b, o + i, none⟩) (World.block_lt_of_cell? w _ (HB.out i hi))).trans (HB.out i hi)) HL.out HN.out rfl (by rw [List.length_take, List.length_drop, HL.out]; omega) hq)
  have TB := hid (fun (U : World) (hU : Below w.heap.size w U) => show Calls Tryd.prog 27 #[.slice (some ⟨b, o, none⟩) n cap, .int .i64 27, .int .i64 2] U fun e w' => e = .returned (.int .u64 (nb : Nat)) ∧ w' = U from by have h := RG.out U hU 27 2 (by decide) (by have := H31.out; omega); rw [HNB.out] at h; exact h)
  have TS := hid (fun (U : World) (hU : Below w.heap.size w U) => show Calls Tryd.prog 27 #[.slice (some ⟨b, o, none⟩) n cap, .int .i64 29, .int .i64 2] U fun e w' => e = .returned (.int .u64 (ns : Nat)) ∧ w' = U from by have h := RG.out U hU 29 2 (by decide) (by have := H31.out; omega); rw [HNS.out] at h; exact h)
  clear h31 hnb hns hD
  have HS := hid hs
  have cD : ¬ (n : Int) < (D : Int) + 4 := by omega
  have cD2 : ¬ (D : Int) + 4 < (n : Int) := by omega
  have i1 : (D : Int) ≤ (n : Int) := by omega
  have i2 : (D : Int) ≤ (cap : Int) := by omega
  have i0 : (0 : Int) ≤ (D : Int) := by omega
  have i10 : (10 : Int) < (n : Int) := by have := H31.out; omega
  clear hs hc
  have TD := hid (fun (U : World) (hU : Below w.heap.size w U) => show Calls Tryd.prog 27 #[.slice (some ⟨b, o, none⟩) n cap, .int .i64 D, .int .i64 4] U fun e w' => e = .returned (.int .u64 (nat' xs D 4 : Nat)) ∧ w' = U from RG.out U hU D 4 (by decide) (by have := HS.out; omega))
  have SM := hid (fun (U : World) (hU : Below w.heap.size w U) => show Calls Tryd.prog 21 #[.slice (some ⟨b, o, none⟩) D cap] U fun e w' => e = .returned (.int .u32 (crc (xs.take D) : Nat)) ∧ w' = U from by
    have h := rsum_some (xs.take D) b o cap U (by rw [List.length_take]; have := HS.out; have := HN.out; have := HL.out; omega) (oct_take HX.out D) (bs_take (fun i hi => (hU.cell (p := ⟨b, o + i, none⟩) (World.block_lt_of_cell? w _ (HB.out i hi))).trans (HB.out i hi)) D)
    rw [List.length_take, HL.out, Nat.min_eq_left (by have := HS.out; omega)] at h
    exact h)
  have Y10 := hid (show ∀ U, Below w.heap.size w U → U.cell? ⟨b, o + 10, none⟩ = some (.int .u8 ((nat' xs 10 1 : Nat) : Int)) from fun U hU => by
    rw [nat_one (by rw [HL.out]; have := H31.out; omega)]
    have h0 := HB.out 10 (by rw [HL.out]; have := H31.out; omega)
    exact (hU.cell (p := ⟨b, o + 10, none⟩) (World.block_lt_of_cell? w _ h0)).trans h0)
  have T8 := hid (fun (U : World) (hU : Below w.heap.size w U) => show Calls Tryd.prog 27 #[.slice (some ⟨b, o, none⟩) n cap, .int .i64 8, .int .i64 2] U fun e w' => e = .returned (.int .u64 (nat' xs 8 2 : Nat)) ∧ Hid (Below U.heap.size U w') from (RG.out U hU 8 2 (by decide) (by have := H31.out; omega)).mono (fun e w' h => ⟨h.1, by rw [h.2]; exact Below.refl _ _⟩))
  have T11 := hid (fun (U : World) (hU : Below w.heap.size w U) => show Calls Tryd.prog 27 #[.slice (some ⟨b, o, none⟩) n cap, .int .i64 11, .int .i64 8] U fun e w' => e = .returned (.int .u64 (nat' xs 11 8 : Nat)) ∧ Hid (Below U.heap.size U w') from (RG.out U hU 11 8 (by decide) (by have := H31.out; omega)).mono (fun e w' h => ⟨h.1, by rw [h.2]; exact Below.refl _ _⟩))
  have T19 := hid (fun (U : World) (hU : Below w.heap.size w U) => show Calls Tryd.prog 27 #[.slice (some ⟨b, o, none⟩) n cap, .int .i64 19, .int .i64 8] U fun e w' => e = .returned (.int .u64 (nat' xs 19 8 : Nat)) ∧ Hid (Below U.heap.size U w') from (RG.out U hU 19 8 (by decide) (by have := H31.out; omega)).mono (fun e w' h => ⟨h.1, by rw [h.2]; exact Below.refl _ _⟩))
  have LC := crc_lt (xs.take D)
  have L8 := nat_lt HX.out 8 2
  have L10 := nat_lt HX.out 10 1
  obtain ⟨v0, hv0⟩ : ∃ z, nat' xs D 4 = z := ⟨_, rfl⟩
  obtain ⟨v1, hv1⟩ : ∃ z, crc (xs.take D) = z := ⟨_, rfl⟩
  obtain ⟨cv, hcv⟩ : ∃ z, nat' xs 8 2 = z := ⟨_, rfl⟩
  obtain ⟨mv, hmv⟩ : ∃ z, nat' xs 10 1 = z := ⟨_, rfl⟩
  obtain ⟨hv, hhv⟩ : ∃ z, nat' xs 11 8 = z := ⟨_, rfl⟩
  obtain ⟨sv, hsv⟩ : ∃ z, nat' xs 19 8 = z := ⟨_, rfl⟩
  rw [hv0] at TD
  rw [hv1] at SM LC
  rw [hcv] at T8 L8
  rw [hmv] at Y10 L10
  rw [hhv] at T11
  rw [hsv] at T19
  have HV0 := hid hv0
  have HV1 := hid hv1
  have HCV := hid hcv
  have HMV := hid hmv
  have HHV := hid hhv
  have HSV := hid hsv
  have cw : IntKind.u64.wrap ((v1 : Nat) : Int) = ((v1 : Nat) : Int) := by rw [IntKind.wrap_u64]; omega
  have cc : IntKind.i64.wrap ((cv : Nat) : Int) = ((cv : Nat) : Int) := by rw [IntKind.wrap_i64]; omega
  have cm : IntKind.i64.wrap ((mv : Nat) : Int) = ((mv : Nat) : Int) := by rw [IntKind.wrap_i64]; omega
  clear LC L8 L10 hv0 hv1 hcv hmv hhv hsv
  rw [HV0.out, HV1.out] at he
  have NE := hid he
  have HYES := hid hyes
  clear he hyes
  obtain ⟨W1, hW1⟩ : ∃ U, w.alloc (.cells #[.int .i64 0, .int .i64 0, .slice none 0 0, .slice none 0 0, .int .u64 0, .int .u64 0] 27) = U := ⟨_, rfl⟩
  obtain ⟨R1, hR1⟩ : ∃ R, w.heap.size = R := ⟨_, rfl⟩
  have HR1 := hid hR1
  have BA := hid (show Below w.heap.size w W1 from by rw [← hW1]; exact ball _ _)
  have Q0 := hid (show W1.heap[R1]? = some (.cells #[.int .i64 0, .int .i64 0, .slice none 0 0, .slice none 0 0, .int .u64 0, .int .u64 0] 27 (0, 0)) from by rw [← hW1, ← hR1]; exact World.alloc_heap_new _ _)
  go_enter Tryd.func11, Tryd.ntmps11
  go_upto_region 1 with fail
  (try rw [hW1, hR1])
  clear hW1 hR1
  go_upto_region 2 with fail
  go_loopw [5] (fun iv wr => ∃ i : Nat, i ≤ 8 ∧ iv = .int .i64 i ∧ Hid (Below W1.heap.size W1 wr)) (fun iv _ => 8 + 1 - (intOf iv).toNat)
  case atStart => exact ⟨0, Nat.zero_le _, rfl, Below.refl _ _⟩
  case round =>
    obtain ⟨i, hiq, rfl, BW⟩ := hrel
    by_cases c : i < 8
    · have HI := hid c
      have i8 : i < 8 := by exact HI.out
      have ixs : i < xs.length := by rw [HL.out]; have := HI.out; have := H8.out; omega
      obtain ⟨m, hm⟩ : ∃ m, xs[i] = m := ⟨_, rfl⟩
      obtain ⟨m2, hm2⟩ : ∃ m2, mag[i]'i8 = m2 := ⟨_, rfl⟩
      have BWw := hid (btr BA.out BW.out)
      have cb : wr.cell? ⟨b, o + i, none⟩ = some (.int .u8 ((m : Nat) : Int)) := by
        rw [← hm]
        exact (BWw.out.cell (p := ⟨b, o + i, none⟩) (World.block_lt_of_cell? w _ (HB.out i ixs))).trans (HB.out i ixs)
      have IX := hid (fun w' => show (Instr.index 9 (.string ⟨#[66, 82, 83, 66, 79, 79, 75, 49]⟩) (.int .i64 ((i : Nat) : Int))).run Tryd.prog w' = .ok (.int .u8 ((m2 : Nat) : Int)) w' from by
        rw [run_index_string w' 9 _ .i64 _ Tryd.underlying9, dif_pos ⟨by omega, by show ((i : Nat) : Int) < 8; omega⟩]
        rcases below8 i8 with rfl | rfl | rfl | rfl | rfl | rfl | rfl | rfl <;> (rw [← hm2]; rfl))
      have i0' : (0 : Int) ≤ (i : Int) := by omega
      have i1 : (i : Int) < 8 := by omega
      have i2 : (i : Int) < (n : Int) := by have := HI.out; have := H8.out; omega
      have i3 : ((i : Int) == (n : Int)) = false := by simp only [beq_eq_false_iff_ne, ne_eq, Int.ofNat_inj]; have := HI.out; have := H8.out; omega
      have wi : IntKind.i64.wrap ((i : Int) + 1) = ((i + 1 : Nat) : Int) := by rw [IntKind.wrap_i64]; omega
      have EQ := hid (show mgs xs i ↔ m = m2 from by unfold mgs; rw [List.getElem?_eq_getElem ixs, List.getElem?_eq_getElem i8, hm, hm2]; exact Option.some_inj)
      go_upto_region 6 with fail
      have ix := IX.out
      go_big_quiet (fail)
      have BW2 := hid (btr BW.out (bdrew _ nq))
      have HLT := hid (show i < 8 from by omega)
      rw [show ((m : Int) != (m2 : Int)) = false from by have := EQ.out.1 (HM.out i HLT.out); simp [this]]
      go_wp2
      go_roundw
      case rel => exact ⟨i + 1, HLT.out, by go_num, BW2⟩
      case measure => have := HLT.out; simp [intOf]; omega
    · obtain rfl : i = 8 := by omega
      clear c hiq
      have Q1 := hid (row_on Q0.out BW.out)
      have BV := hid (btr BA.out BW.out)
      clear Q0 BA BW
      go_upto_region 10 with fail
      go_upto_region 11 with (first | (go_at_call 27; with_reducible refine (TB.out _ BV.out).mono ?_; rintro e _ ⟨rfl, he⟩; have he := he.symm; subst he) | (go_at_call 27; with_reducible refine (TS.out _ BV.out).mono ?_; rintro e _ ⟨rfl, he⟩; have he := he.symm; subst he))
      go_upto_region 12 with fail
      go_upto_region 16 with fail
      obtain ⟨V51, hV51⟩ : ∃ U, wr.drew = U := ⟨_, rfl⟩
      have DV51 := hid (show Below wr.heap.size wr V51 from by rw [← hV51]; exact bdrew1 _)
      have BV51 := hid (btr (BV.out) DV51.out)
      refine wp_region_held_drew (S := fun U => U.cell? ⟨b, o + 10, none⟩ = some (.int .u8 ((mv : Nat) : Int))) (by kernel_rfl) ?_ (fun hHeld => ?_)
      · (try dsimp only); rw [hV51]; exact Y10.out _ BV51.out
      rw [hV51] at hHeld ⊢
      clear hV51
      refine' wpAnyH_take (i := 0) (oi := _) (v := _) rfl (by kernel_rfl) (by kernel_rfl) (by kernel_rfl) (fun _ _ _ h => h) (Or.inl ⟨by kernel_rfl, ?_⟩) (by assumption) ?_
      rotate_left
      · (intro w hSw; (try dsimp only at hSw); go_simp; try (with_reducible rfl))
      try simp only [List.getElem_toArray, List.getElem_cons_succ, List.getElem_cons_zero, Act.put, List.setIfInBounds_toArray, List.set_cons_zero, List.set_cons_succ]
      refine' wpAnyH_take (i := 1) (oi := _) (v := _) rfl (by kernel_rfl) (by kernel_rfl) (by kernel_rfl) (fun _ _ _ h => h) (Or.inl ⟨by kernel_rfl, ?_⟩) (by assumption) ?_
      rotate_left
      · (intro w hSw; (try dsimp only at hSw); go_simp; try (with_reducible rfl))
      try simp only [List.getElem_toArray, List.getElem_cons_succ, List.getElem_cons_zero, Act.put, List.setIfInBounds_toArray, List.set_cons_zero, List.set_cons_succ]
      refine' wpAnyH_take (i := 3) (oi := _) (v := _) rfl (by kernel_rfl) (by kernel_rfl) (by kernel_rfl) (fun _ _ _ h => h) (Or.inl ⟨by kernel_rfl, ?_⟩) (by assumption) ?_
      rotate_left
      · (intro w hSw; (try dsimp only at hSw); go_simp; try (with_reducible rfl))
      try simp only [List.getElem_toArray, List.getElem_cons_succ, List.getElem_cons_zero, Act.put, List.setIfInBounds_toArray, List.set_cons_zero, List.set_cons_succ]
      refine' wpAnyH_take (i := 4) (oi := _) (v := _) rfl (by kernel_rfl) (by kernel_rfl) (by kernel_rfl) (fun _ _ _ h => h) (Or.inl ⟨by kernel_rfl, ?_⟩) (by assumption) ?_
      rotate_left
      · (intro w hSw; (try dsimp only at hSw); go_simp; try (with_reducible rfl))
      try simp only [List.getElem_toArray, List.getElem_cons_succ, List.getElem_cons_zero, Act.put, List.setIfInBounds_toArray, List.set_cons_zero, List.set_cons_succ]
      refine' wpAnyH_take (i := 5) (oi := _) (v := _) rfl (by kernel_rfl) (by kernel_rfl) (by kernel_rfl) (fun _ _ _ h => h) (Or.inl ⟨by kernel_rfl, ?_⟩) (by assumption) ?_
      rotate_left
      · (intro w hSw; (try dsimp only at hSw); go_simp; try (with_reducible rfl))
      try simp only [List.getElem_toArray, List.getElem_cons_succ, List.getElem_cons_zero, Act.put, List.setIfInBounds_toArray, List.set_cons_zero, List.set_cons_succ]
      refine wpAnyH_ready (rs := [2]) (by kernel_rfl) (by simp) ?_
      refine (AllReadyH.cons (o := _) rfl (fun K hK => ?_) AllReadyH.nil)
      go_simp
      go_at_call 27
      with_reducible refine (TD.out _ BV51.out).mono ?_
      rintro e _ ⟨rfl, he⟩
      have he := he.symm
      subst he
      (try go_wp2_with fail)
      refine hK.out _ _ ?_ (fun hHeld => ?_)
      · (try dsimp only); exact Y10.out _ BV51.out
      clear hK K
      try simp only [List.getElem_toArray, List.getElem_cons_succ, List.getElem_cons_zero, Act.put, List.setIfInBounds_toArray, List.set_cons_zero, List.set_cons_succ]
      refine wpAnyH_ready (rs := [6]) (by kernel_rfl) (by simp) ?_
      refine (AllReadyH.cons (o := _) rfl (fun K hK => ?_) AllReadyH.nil)
      go_simp
      go_at_call 21
      with_reducible refine (SM.out _ BV51.out).mono ?_
      rintro e _ ⟨rfl, he⟩
      have he := he.symm
      subst he
      (try go_wp2_with fail)
      refine hK.out _ _ ?_ (fun hHeld => ?_)
      · (try dsimp only); exact Y10.out _ BV51.out
      clear hK K
      try simp only [List.getElem_toArray, List.getElem_cons_succ, List.getElem_cons_zero, Act.put, List.setIfInBounds_toArray, List.set_cons_zero, List.set_cons_succ]
      refine' wpAnyH_take (i := 7) (oi := _) (v := _) rfl (by kernel_rfl) (by kernel_rfl) (by kernel_rfl) (fun _ _ _ h => h) (Or.inl ⟨by kernel_rfl, ?_⟩) (by assumption) ?_
      rotate_left
      · (intro w hSw; (try dsimp only at hSw); go_simp; try (with_reducible rfl))
      try simp only [List.getElem_toArray, List.getElem_cons_succ, List.getElem_cons_zero, Act.put, List.setIfInBounds_toArray, List.set_cons_zero, List.set_cons_succ]
      refine' wpAnyH_take (i := 8) (oi := _) (v := _) rfl (by kernel_rfl) (by kernel_rfl) (by kernel_rfl) (fun _ _ _ h => h) (Or.inl ⟨by kernel_rfl, ?_⟩) (by assumption) ?_
      rotate_left
      · (intro w hSw; (try dsimp only at hSw); go_simp; try (with_reducible rfl))
      try simp only [List.getElem_toArray, List.getElem_cons_succ, List.getElem_cons_zero, Act.put, List.setIfInBounds_toArray, List.set_cons_zero, List.set_cons_succ]
      refine wpAnyH_done (by kernel_rfl) ?_ _
      rw [show ((v0 : Int) != (v1 : Int)) = false from by have := NE.out; simp [this]]
      have Q2 := hid (row_on Q1.out DV51.out)
      go_upto_region 18 with fail
      refine reg_cut (X := Nat) (fun a t => ((((((((((((((a.put (some 73) (.slice (some ⟨b, o, none⟩) n cap)).put (some 74) (.int .u64 ((cv : Nat) : Int))).put (some 75) (.int .i64 ((cv : Nat) : Int))).put (some 76) (.slice (some ⟨b, o, none⟩) n cap)).put (some 77) (.pointer (some ⟨b, o + 10, none⟩))).put (some 78) (.int .u8 ((mv : Nat) : Int))).put (some 79) (.int .i64 ((mv : Nat) : Int))).put (some 80) (.agg #[.int .i64 ((cv : Nat) : Int), .int .i64 ((mv : Nat) : Int)])).put (some 81) (.slice (some ⟨b, o, none⟩) n cap)).put (some 82) (.int .u64 ((hv : Nat) : Int))).put (some 83) (.slice (some ⟨b, o, none⟩) n cap)).put (some 84) (.int .u64 ((sv : Nat) : Int))).put (some 85) (.agg #[.int .i64 ((cv : Nat) : Int), .int .i64 ((mv : Nat) : Int), .slice none 0 0, .slice none 0 0, .int .u64 ((hv : Nat) : Int), .int .u64 ((sv : Nat) : Int)])).put (some 9) (.pointer (some ⟨t, 0, none⟩)))) (fun t V => Hid (Below V51.heap.size V51 V) ∧ Hid (V.heap[t]? = some (.cells #[.int .i64 ((cv : Nat) : Int), .int .i64 ((mv : Nat) : Int), .slice none 0 0, .slice none 0 0, .int .u64 ((hv : Nat) : Int), .int .u64 ((sv : Nat) : Int)] 27 (0, 0))) ∧ Hid (V51.heap.size ≤ t)) ?_ ?_
      · obtain ⟨V201, hV201⟩ : ∃ U, V51.drew = U := ⟨_, rfl⟩
        have BV201 := hid (show Below V51.heap.size V51 V201 from by rw [← hV201]; exact bdrew1 _)
        refine wp_region_held_drew (S := (fun U => U.cell? ⟨b, o + 10, none⟩ = some (.int .u8 ((mv : Nat) : Int)))) (by kernel_rfl) ?_ (fun hHeld => ?_)
        · (try dsimp only); rw [hV201]; exact Y10.out _ (btr BV51.out BV201.out)
        rw [hV201] at hHeld ⊢
        clear hV201
        refine' wpAnyH_take (i := 0) (oi := _) (v := _) rfl (by kernel_rfl) (by kernel_rfl) (by kernel_rfl) (fun _ _ _ h => h) (Or.inl ⟨by kernel_rfl, ?_⟩) (by assumption) ?_
        rotate_left
        · (intro w hSw; (try dsimp only at hSw); go_simp; try (with_reducible rfl))
        try simp only [List.getElem_toArray, List.getElem_cons_succ, List.getElem_cons_zero, Act.put, List.setIfInBounds_toArray, List.set_cons_zero, List.set_cons_succ]
        refine' wpAnyH_take (i := 3) (oi := _) (v := _) rfl (by kernel_rfl) (by kernel_rfl) (by kernel_rfl) (fun _ _ _ h => h) (Or.inl ⟨by kernel_rfl, ?_⟩) (by assumption) ?_
        rotate_left
        · (intro w hSw; (try dsimp only at hSw); go_simp; try (with_reducible rfl))
        try simp only [List.getElem_toArray, List.getElem_cons_succ, List.getElem_cons_zero, Act.put, List.setIfInBounds_toArray, List.set_cons_zero, List.set_cons_succ]
        refine' wpAnyH_take (i := 4) (oi := _) (v := _) rfl (by kernel_rfl) (by kernel_rfl) (by kernel_rfl) (fun _ _ _ h => h) (Or.inl ⟨by kernel_rfl, ?_⟩) (by assumption) ?_
        rotate_left
        · (intro w hSw; (try dsimp only at hSw); go_simp; try (with_reducible rfl))
        try simp only [List.getElem_toArray, List.getElem_cons_succ, List.getElem_cons_zero, Act.put, List.setIfInBounds_toArray, List.set_cons_zero, List.set_cons_succ]
        refine' wpAnyH_take (i := 5) (oi := _) (v := _) rfl (by kernel_rfl) (by kernel_rfl) (by kernel_rfl) (fun _ _ _ h => h) (Or.inl ⟨by kernel_rfl, ?_⟩) (by assumption) ?_
        rotate_left
        · (intro w hSw; (try dsimp only at hSw); go_simp; try (with_reducible rfl))
        try simp only [List.getElem_toArray, List.getElem_cons_succ, List.getElem_cons_zero, Act.put, List.setIfInBounds_toArray, List.set_cons_zero, List.set_cons_succ]
        refine' wpAnyH_take (i := 6) (oi := _) (v := _) rfl (by kernel_rfl) (by kernel_rfl) (by kernel_rfl) (fun _ _ _ h => h) (Or.inl ⟨by kernel_rfl, ?_⟩) (by assumption) ?_
        rotate_left
        · (intro w hSw; (try dsimp only at hSw); go_simp; try (with_reducible rfl))
        try simp only [List.getElem_toArray, List.getElem_cons_succ, List.getElem_cons_zero, Act.put, List.setIfInBounds_toArray, List.set_cons_zero, List.set_cons_succ]
        refine' wpAnyH_take (i := 8) (oi := _) (v := _) rfl (by kernel_rfl) (by kernel_rfl) (by kernel_rfl) (fun _ _ _ h => h) (Or.inl ⟨by kernel_rfl, ?_⟩) (by assumption) ?_
        rotate_left
        · (intro w hSw; (try dsimp only at hSw); go_simp; try (with_reducible rfl))
        try simp only [List.getElem_toArray, List.getElem_cons_succ, List.getElem_cons_zero, Act.put, List.setIfInBounds_toArray, List.set_cons_zero, List.set_cons_succ]
        refine' wpAnyH_take (i := 10) (oi := _) (v := _) rfl (by kernel_rfl) (by kernel_rfl) (by kernel_rfl) (fun _ _ _ h => h) (Or.inl ⟨by kernel_rfl, ?_⟩) (by assumption) ?_
        rotate_left
        · (intro w hSw; (try dsimp only at hSw); go_simp; try (with_reducible rfl))
        try simp only [List.getElem_toArray, List.getElem_cons_succ, List.getElem_cons_zero, Act.put, List.setIfInBounds_toArray, List.set_cons_zero, List.set_cons_succ]
        refine wpAnyH_ready (rs := [1, 13]) (by kernel_rfl) (by simp) ?_
        refine (AllReadyH.cons (o := _) rfl (fun K hK => ?_) (AllReadyH.cons (o := _) rfl (fun K hK => ?_) AllReadyH.nil))
        · go_simp
          go_at_call 27
          with_reducible refine (T8.out _ (btr BV51.out BV201.out)).mono ?_
          rintro e X202 ⟨rfl, DbX202⟩
          have DX202 := hid (btr BV201.out DbX202.out)
          have UX202 := hid (BV201.out.size)
          (try go_wp2_with fail)
          refine hK.out _ _ ?_ (fun hHeld => ?_)
          · (try dsimp only); exact Y10.out _ (btr BV51.out DX202.out)
          clear hK K
          try simp only [List.getElem_toArray, List.getElem_cons_succ, List.getElem_cons_zero, Act.put, List.setIfInBounds_toArray, List.set_cons_zero, List.set_cons_succ]
          refine' wpAnyH_take (i := 2) (oi := _) (v := _) rfl (by kernel_rfl) (by kernel_rfl) (by kernel_rfl) (fun _ _ _ h => h) (Or.inl ⟨by kernel_rfl, ?_⟩) (by assumption) ?_
          rotate_left
          · (intro w hSw; (try dsimp only at hSw); go_simp; try (with_reducible rfl))
          try simp only [List.getElem_toArray, List.getElem_cons_succ, List.getElem_cons_zero, Act.put, List.setIfInBounds_toArray, List.set_cons_zero, List.set_cons_succ]
          refine' wpAnyH_take (i := 7) (oi := _) (v := _) rfl (by kernel_rfl) (by kernel_rfl) (by kernel_rfl) (fun _ _ _ h => h) (Or.inl ⟨by kernel_rfl, ?_⟩) (by assumption) ?_
          rotate_left
          · (intro w hSw; (try dsimp only at hSw); go_simp; try (with_reducible rfl))
          try simp only [List.getElem_toArray, List.getElem_cons_succ, List.getElem_cons_zero, Act.put, List.setIfInBounds_toArray, List.set_cons_zero, List.set_cons_succ]
          refine wpAnyH_ready (rs := [9, 13]) (by kernel_rfl) (by simp) ?_
          refine (AllReadyH.cons (o := _) rfl (fun K hK => ?_) (AllReadyH.cons (o := _) rfl (fun K hK => ?_) AllReadyH.nil))
          · go_simp
            go_at_call 27
            with_reducible refine (T11.out _ (btr BV51.out DX202.out)).mono ?_
            rintro e X203 ⟨rfl, DbX203⟩
            have DX203 := hid (btr DX202.out DbX203.out)
            have UX203 := hid (DX202.out.size)
            (try go_wp2_with fail)
            refine hK.out _ _ ?_ (fun hHeld => ?_)
            · (try dsimp only); exact Y10.out _ (btr BV51.out DX203.out)
            clear hK K
            try simp only [List.getElem_toArray, List.getElem_cons_succ, List.getElem_cons_zero, Act.put, List.setIfInBounds_toArray, List.set_cons_zero, List.set_cons_succ]
            refine wpAnyH_ready (rs := [11, 13]) (by kernel_rfl) (by simp) ?_
            refine (AllReadyH.cons (o := _) rfl (fun K hK => ?_) (AllReadyH.cons (o := _) rfl (fun K hK => ?_) AllReadyH.nil))
            · go_simp
              go_at_call 27
              with_reducible refine (T19.out _ (btr BV51.out DX203.out)).mono ?_
              rintro e X204 ⟨rfl, DbX204⟩
              have DX204 := hid (btr DX203.out DbX204.out)
              have UX204 := hid (DX203.out.size)
              (try go_wp2_with fail)
              refine hK.out _ _ ?_ (fun hHeld => ?_)
              · (try dsimp only); exact Y10.out _ (btr BV51.out DX204.out)
              clear hK K
              try simp only [List.getElem_toArray, List.getElem_cons_succ, List.getElem_cons_zero, Act.put, List.setIfInBounds_toArray, List.set_cons_zero, List.set_cons_succ]
              refine' wpAnyH_take (i := 12) (oi := _) (v := _) rfl (by kernel_rfl) (by kernel_rfl) (by kernel_rfl) (fun _ _ _ h => h) (Or.inl ⟨by kernel_rfl, ?_⟩) (by assumption) ?_
              rotate_left
              · (intro w hSw; (try dsimp only at hSw); go_simp; try (with_reducible rfl))
              try simp only [List.getElem_toArray, List.getElem_cons_succ, List.getElem_cons_zero, Act.put, List.setIfInBounds_toArray, List.set_cons_zero, List.set_cons_succ]
              refine wpAnyH_ready (rs := [13]) (by kernel_rfl) (by simp) ?_
              refine (AllReadyH.cons (o := _) rfl (fun K hK => ?_) AllReadyH.nil)
              go_simp
              obtain ⟨X205, hX205⟩ : ∃ X, X204.alloc (.cells #[.int .i64 0, .int .i64 0, .slice none 0 0, .slice none 0 0, .int .u64 0, .int .u64 0] 27) = X := ⟨_, rfl⟩
              have bX205 : Below X204.heap.size X204 X205 := by rw [← hX205]; exact ball _ _
              have DX205 := hid (btr DX204.out bX205)
              have zX205 : X205.heap[X204.heap.size]? = some (.cells #[.int .i64 0, .int .i64 0, .slice none 0 0, .slice none 0 0, .int .u64 0, .int .u64 0] 27 (0, 0)) := by rw [← hX205]; exact World.alloc_heap_new _ _
              have yg206 := DX204.out.size
              obtain ⟨g206, hg206⟩ : ∃ g, X204.heap.size = g := ⟨_, rfl⟩
              rw [hg206] at zX205 yg206
              have ZX205 := hid zX205
              rw [hX205, hg206]
              clear hX205 hg206 zX205 bX205
              refine hK.out _ _ ?_ (fun hHeld => ?_)
              · (try dsimp only); exact Y10.out _ (btr BV51.out DX205.out)
              clear hK K
              try simp only [List.getElem_toArray, List.getElem_cons_succ, List.getElem_cons_zero, Act.put, List.setIfInBounds_toArray, List.set_cons_zero, List.set_cons_succ]
              refine wpAnyH_ready (rs := [14]) (by kernel_rfl) (by simp) ?_
              refine (AllReadyH.cons (o := _) rfl (fun K hK => ?_) AllReadyH.nil)
              refine step_store_row (by rfl) 27 (.tmp 9) (.tmp 85) (by rfl) g206 #[.int .i64 ((cv : Nat) : Int), .int .i64 ((mv : Nat) : Int), .slice none 0 0, .slice none 0 0, .int .u64 ((hv : Nat) : Int), .int .u64 ((sv : Nat) : Int)] (by rfl) (by rfl) 27 _ ZX205.out infoB (by rfl) (by simp [Value.oneCell']) ?_
              obtain ⟨Y207, hY207⟩ : ∃ Y, X205.setRow g206 #[.int .i64 ((cv : Nat) : Int), .int .i64 ((mv : Nat) : Int), .slice none 0 0, .slice none 0 0, .int .u64 ((hv : Nat) : Int), .int .u64 ((sv : Nat) : Int)] = Y := ⟨_, rfl⟩
              have KY207 := hid (show Kp (fun j => j = g206) X205 Y207 from by rw [← hY207]; exact setRow_kp _ _ _)
              have AY207 := hid (show Y207.heap[g206]? = some (.cells #[.int .i64 ((cv : Nat) : Int), .int .i64 ((mv : Nat) : Int), .slice none 0 0, .slice none 0 0, .int .u64 ((hv : Nat) : Int), .int .u64 ((sv : Nat) : Int)] 27 (0, 0)) from by rw [← hY207]; exact setRow_heap X205 g206 _ _ 27 (0, 0) ZX205.out)
              have DY207 := hid (show Below V51.heap.size V51 Y207 from by rw [← hY207]; exact setRow_below DX205.out yg206)
              rw [hY207]
              refine hK.out _ _ ?_ (fun hHeld => ?_)
              · (try dsimp only); exact Y10.out _ (btr BV51.out DY207.out)
              clear hK K hY207
              try simp only [List.getElem_toArray, List.getElem_cons_succ, List.getElem_cons_zero, Act.put, List.setIfInBounds_toArray, List.set_cons_zero, List.set_cons_succ]
              refine wpAnyH_done (by kernel_rfl) ?_ _
              exact ⟨g206, by kernel_rfl, DY207, AY207, yg206⟩
            · go_simp
              obtain ⟨X208, hX208⟩ : ∃ X, X203.alloc (.cells #[.int .i64 0, .int .i64 0, .slice none 0 0, .slice none 0 0, .int .u64 0, .int .u64 0] 27) = X := ⟨_, rfl⟩
              have bX208 : Below X203.heap.size X203 X208 := by rw [← hX208]; exact ball _ _
              have DX208 := hid (btr DX203.out bX208)
              have zX208 : X208.heap[X203.heap.size]? = some (.cells #[.int .i64 0, .int .i64 0, .slice none 0 0, .slice none 0 0, .int .u64 0, .int .u64 0] 27 (0, 0)) := by rw [← hX208]; exact World.alloc_heap_new _ _
              have yg209 := DX203.out.size
              obtain ⟨g209, hg209⟩ : ∃ g, X203.heap.size = g := ⟨_, rfl⟩
              rw [hg209] at zX208 yg209
              have ZX208 := hid zX208
              rw [hX208, hg209]
              clear hX208 hg209 zX208 bX208
              refine hK.out _ _ ?_ (fun hHeld => ?_)
              · (try dsimp only); exact Y10.out _ (btr BV51.out DX208.out)
              clear hK K
              try simp only [List.getElem_toArray, List.getElem_cons_succ, List.getElem_cons_zero, Act.put, List.setIfInBounds_toArray, List.set_cons_zero, List.set_cons_succ]
              refine wpAnyH_ready (rs := [11]) (by kernel_rfl) (by simp) ?_
              refine (AllReadyH.cons (o := _) rfl (fun K hK => ?_) AllReadyH.nil)
              go_simp
              go_at_call 27
              with_reducible refine (T19.out _ (btr BV51.out DX208.out)).mono ?_
              rintro e X210 ⟨rfl, DbX210⟩
              have r211 := hid (row_on ZX208.out DbX210.out)
              have DX210 := hid (btr DX208.out DbX210.out)
              have UX210 := hid (DX208.out.size)
              (try go_wp2_with fail)
              refine hK.out _ _ ?_ (fun hHeld => ?_)
              · (try dsimp only); exact Y10.out _ (btr BV51.out DX210.out)
              clear hK K
              try simp only [List.getElem_toArray, List.getElem_cons_succ, List.getElem_cons_zero, Act.put, List.setIfInBounds_toArray, List.set_cons_zero, List.set_cons_succ]
              refine' wpAnyH_take (i := 12) (oi := _) (v := _) rfl (by kernel_rfl) (by kernel_rfl) (by kernel_rfl) (fun _ _ _ h => h) (Or.inl ⟨by kernel_rfl, ?_⟩) (by assumption) ?_
              rotate_left
              · (intro w hSw; (try dsimp only at hSw); go_simp; try (with_reducible rfl))
              try simp only [List.getElem_toArray, List.getElem_cons_succ, List.getElem_cons_zero, Act.put, List.setIfInBounds_toArray, List.set_cons_zero, List.set_cons_succ]
              refine wpAnyH_ready (rs := [14]) (by kernel_rfl) (by simp) ?_
              refine (AllReadyH.cons (o := _) rfl (fun K hK => ?_) AllReadyH.nil)
              refine step_store_row (by rfl) 27 (.tmp 9) (.tmp 85) (by rfl) g209 #[.int .i64 ((cv : Nat) : Int), .int .i64 ((mv : Nat) : Int), .slice none 0 0, .slice none 0 0, .int .u64 ((hv : Nat) : Int), .int .u64 ((sv : Nat) : Int)] (by rfl) (by rfl) 27 _ r211.out infoB (by rfl) (by simp [Value.oneCell']) ?_
              obtain ⟨Y212, hY212⟩ : ∃ Y, X210.setRow g209 #[.int .i64 ((cv : Nat) : Int), .int .i64 ((mv : Nat) : Int), .slice none 0 0, .slice none 0 0, .int .u64 ((hv : Nat) : Int), .int .u64 ((sv : Nat) : Int)] = Y := ⟨_, rfl⟩
              have KY212 := hid (show Kp (fun j => j = g209) X210 Y212 from by rw [← hY212]; exact setRow_kp _ _ _)
              have AY212 := hid (show Y212.heap[g209]? = some (.cells #[.int .i64 ((cv : Nat) : Int), .int .i64 ((mv : Nat) : Int), .slice none 0 0, .slice none 0 0, .int .u64 ((hv : Nat) : Int), .int .u64 ((sv : Nat) : Int)] 27 (0, 0)) from by rw [← hY212]; exact setRow_heap X210 g209 _ _ 27 (0, 0) r211.out)
              have DY212 := hid (show Below V51.heap.size V51 Y212 from by rw [← hY212]; exact setRow_below DX210.out yg209)
              rw [hY212]
              refine hK.out _ _ ?_ (fun hHeld => ?_)
              · (try dsimp only); exact Y10.out _ (btr BV51.out DY212.out)
              clear hK K hY212
              try simp only [List.getElem_toArray, List.getElem_cons_succ, List.getElem_cons_zero, Act.put, List.setIfInBounds_toArray, List.set_cons_zero, List.set_cons_succ]
              refine wpAnyH_done (by kernel_rfl) ?_ _
              exact ⟨g209, by kernel_rfl, DY212, AY212, yg209⟩
          · go_simp
            obtain ⟨X213, hX213⟩ : ∃ X, X202.alloc (.cells #[.int .i64 0, .int .i64 0, .slice none 0 0, .slice none 0 0, .int .u64 0, .int .u64 0] 27) = X := ⟨_, rfl⟩
            have bX213 : Below X202.heap.size X202 X213 := by rw [← hX213]; exact ball _ _
            have DX213 := hid (btr DX202.out bX213)
            have zX213 : X213.heap[X202.heap.size]? = some (.cells #[.int .i64 0, .int .i64 0, .slice none 0 0, .slice none 0 0, .int .u64 0, .int .u64 0] 27 (0, 0)) := by rw [← hX213]; exact World.alloc_heap_new _ _
            have yg214 := DX202.out.size
            obtain ⟨g214, hg214⟩ : ∃ g, X202.heap.size = g := ⟨_, rfl⟩
            rw [hg214] at zX213 yg214
            have ZX213 := hid zX213
            rw [hX213, hg214]
            clear hX213 hg214 zX213 bX213
            refine hK.out _ _ ?_ (fun hHeld => ?_)
            · (try dsimp only); exact Y10.out _ (btr BV51.out DX213.out)
            clear hK K
            try simp only [List.getElem_toArray, List.getElem_cons_succ, List.getElem_cons_zero, Act.put, List.setIfInBounds_toArray, List.set_cons_zero, List.set_cons_succ]
            refine wpAnyH_ready (rs := [9]) (by kernel_rfl) (by simp) ?_
            refine (AllReadyH.cons (o := _) rfl (fun K hK => ?_) AllReadyH.nil)
            go_simp
            go_at_call 27
            with_reducible refine (T11.out _ (btr BV51.out DX213.out)).mono ?_
            rintro e X215 ⟨rfl, DbX215⟩
            have r216 := hid (row_on ZX213.out DbX215.out)
            have DX215 := hid (btr DX213.out DbX215.out)
            have UX215 := hid (DX213.out.size)
            (try go_wp2_with fail)
            refine hK.out _ _ ?_ (fun hHeld => ?_)
            · (try dsimp only); exact Y10.out _ (btr BV51.out DX215.out)
            clear hK K
            try simp only [List.getElem_toArray, List.getElem_cons_succ, List.getElem_cons_zero, Act.put, List.setIfInBounds_toArray, List.set_cons_zero, List.set_cons_succ]
            refine wpAnyH_ready (rs := [11]) (by kernel_rfl) (by simp) ?_
            refine (AllReadyH.cons (o := _) rfl (fun K hK => ?_) AllReadyH.nil)
            go_simp
            go_at_call 27
            with_reducible refine (T19.out _ (btr BV51.out DX215.out)).mono ?_
            rintro e X217 ⟨rfl, DbX217⟩
            have r218 := hid (row_on r216.out DbX217.out)
            have DX217 := hid (btr DX215.out DbX217.out)
            have UX217 := hid (DX215.out.size)
            (try go_wp2_with fail)
            refine hK.out _ _ ?_ (fun hHeld => ?_)
            · (try dsimp only); exact Y10.out _ (btr BV51.out DX217.out)
            clear hK K
            try simp only [List.getElem_toArray, List.getElem_cons_succ, List.getElem_cons_zero, Act.put, List.setIfInBounds_toArray, List.set_cons_zero, List.set_cons_succ]
            refine' wpAnyH_take (i := 12) (oi := _) (v := _) rfl (by kernel_rfl) (by kernel_rfl) (by kernel_rfl) (fun _ _ _ h => h) (Or.inl ⟨by kernel_rfl, ?_⟩) (by assumption) ?_
            rotate_left
            · (intro w hSw; (try dsimp only at hSw); go_simp; try (with_reducible rfl))
            try simp only [List.getElem_toArray, List.getElem_cons_succ, List.getElem_cons_zero, Act.put, List.setIfInBounds_toArray, List.set_cons_zero, List.set_cons_succ]
            refine wpAnyH_ready (rs := [14]) (by kernel_rfl) (by simp) ?_
            refine (AllReadyH.cons (o := _) rfl (fun K hK => ?_) AllReadyH.nil)
            refine step_store_row (by rfl) 27 (.tmp 9) (.tmp 85) (by rfl) g214 #[.int .i64 ((cv : Nat) : Int), .int .i64 ((mv : Nat) : Int), .slice none 0 0, .slice none 0 0, .int .u64 ((hv : Nat) : Int), .int .u64 ((sv : Nat) : Int)] (by rfl) (by rfl) 27 _ r218.out infoB (by rfl) (by simp [Value.oneCell']) ?_
            obtain ⟨Y219, hY219⟩ : ∃ Y, X217.setRow g214 #[.int .i64 ((cv : Nat) : Int), .int .i64 ((mv : Nat) : Int), .slice none 0 0, .slice none 0 0, .int .u64 ((hv : Nat) : Int), .int .u64 ((sv : Nat) : Int)] = Y := ⟨_, rfl⟩
            have KY219 := hid (show Kp (fun j => j = g214) X217 Y219 from by rw [← hY219]; exact setRow_kp _ _ _)
            have AY219 := hid (show Y219.heap[g214]? = some (.cells #[.int .i64 ((cv : Nat) : Int), .int .i64 ((mv : Nat) : Int), .slice none 0 0, .slice none 0 0, .int .u64 ((hv : Nat) : Int), .int .u64 ((sv : Nat) : Int)] 27 (0, 0)) from by rw [← hY219]; exact setRow_heap X217 g214 _ _ 27 (0, 0) r218.out)
            have DY219 := hid (show Below V51.heap.size V51 Y219 from by rw [← hY219]; exact setRow_below DX217.out yg214)
            rw [hY219]
            refine hK.out _ _ ?_ (fun hHeld => ?_)
            · (try dsimp only); exact Y10.out _ (btr BV51.out DY219.out)
            clear hK K hY219
            try simp only [List.getElem_toArray, List.getElem_cons_succ, List.getElem_cons_zero, Act.put, List.setIfInBounds_toArray, List.set_cons_zero, List.set_cons_succ]
            refine wpAnyH_done (by kernel_rfl) ?_ _
            exact ⟨g214, by kernel_rfl, DY219, AY219, yg214⟩
        · go_simp
          obtain ⟨X220, hX220⟩ : ∃ X, V201.alloc (.cells #[.int .i64 0, .int .i64 0, .slice none 0 0, .slice none 0 0, .int .u64 0, .int .u64 0] 27) = X := ⟨_, rfl⟩
          have bX220 : Below V201.heap.size V201 X220 := by rw [← hX220]; exact ball _ _
          have DX220 := hid (btr BV201.out bX220)
          have zX220 : X220.heap[V201.heap.size]? = some (.cells #[.int .i64 0, .int .i64 0, .slice none 0 0, .slice none 0 0, .int .u64 0, .int .u64 0] 27 (0, 0)) := by rw [← hX220]; exact World.alloc_heap_new _ _
          have yg221 := BV201.out.size
          obtain ⟨g221, hg221⟩ : ∃ g, V201.heap.size = g := ⟨_, rfl⟩
          rw [hg221] at zX220 yg221
          have ZX220 := hid zX220
          rw [hX220, hg221]
          clear hX220 hg221 zX220 bX220
          refine hK.out _ _ ?_ (fun hHeld => ?_)
          · (try dsimp only); exact Y10.out _ (btr BV51.out DX220.out)
          clear hK K
          try simp only [List.getElem_toArray, List.getElem_cons_succ, List.getElem_cons_zero, Act.put, List.setIfInBounds_toArray, List.set_cons_zero, List.set_cons_succ]
          refine wpAnyH_ready (rs := [1]) (by kernel_rfl) (by simp) ?_
          refine (AllReadyH.cons (o := _) rfl (fun K hK => ?_) AllReadyH.nil)
          go_simp
          go_at_call 27
          with_reducible refine (T8.out _ (btr BV51.out DX220.out)).mono ?_
          rintro e X222 ⟨rfl, DbX222⟩
          have r223 := hid (row_on ZX220.out DbX222.out)
          have DX222 := hid (btr DX220.out DbX222.out)
          have UX222 := hid (DX220.out.size)
          (try go_wp2_with fail)
          refine hK.out _ _ ?_ (fun hHeld => ?_)
          · (try dsimp only); exact Y10.out _ (btr BV51.out DX222.out)
          clear hK K
          try simp only [List.getElem_toArray, List.getElem_cons_succ, List.getElem_cons_zero, Act.put, List.setIfInBounds_toArray, List.set_cons_zero, List.set_cons_succ]
          refine' wpAnyH_take (i := 2) (oi := _) (v := _) rfl (by kernel_rfl) (by kernel_rfl) (by kernel_rfl) (fun _ _ _ h => h) (Or.inl ⟨by kernel_rfl, ?_⟩) (by assumption) ?_
          rotate_left
          · (intro w hSw; (try dsimp only at hSw); go_simp; try (with_reducible rfl))
          try simp only [List.getElem_toArray, List.getElem_cons_succ, List.getElem_cons_zero, Act.put, List.setIfInBounds_toArray, List.set_cons_zero, List.set_cons_succ]
          refine' wpAnyH_take (i := 7) (oi := _) (v := _) rfl (by kernel_rfl) (by kernel_rfl) (by kernel_rfl) (fun _ _ _ h => h) (Or.inl ⟨by kernel_rfl, ?_⟩) (by assumption) ?_
          rotate_left
          · (intro w hSw; (try dsimp only at hSw); go_simp; try (with_reducible rfl))
          try simp only [List.getElem_toArray, List.getElem_cons_succ, List.getElem_cons_zero, Act.put, List.setIfInBounds_toArray, List.set_cons_zero, List.set_cons_succ]
          refine wpAnyH_ready (rs := [9]) (by kernel_rfl) (by simp) ?_
          refine (AllReadyH.cons (o := _) rfl (fun K hK => ?_) AllReadyH.nil)
          go_simp
          go_at_call 27
          with_reducible refine (T11.out _ (btr BV51.out DX222.out)).mono ?_
          rintro e X224 ⟨rfl, DbX224⟩
          have r225 := hid (row_on r223.out DbX224.out)
          have DX224 := hid (btr DX222.out DbX224.out)
          have UX224 := hid (DX222.out.size)
          (try go_wp2_with fail)
          refine hK.out _ _ ?_ (fun hHeld => ?_)
          · (try dsimp only); exact Y10.out _ (btr BV51.out DX224.out)
          clear hK K
          try simp only [List.getElem_toArray, List.getElem_cons_succ, List.getElem_cons_zero, Act.put, List.setIfInBounds_toArray, List.set_cons_zero, List.set_cons_succ]
          refine wpAnyH_ready (rs := [11]) (by kernel_rfl) (by simp) ?_
          refine (AllReadyH.cons (o := _) rfl (fun K hK => ?_) AllReadyH.nil)
          go_simp
          go_at_call 27
          with_reducible refine (T19.out _ (btr BV51.out DX224.out)).mono ?_
          rintro e X226 ⟨rfl, DbX226⟩
          have r227 := hid (row_on r225.out DbX226.out)
          have DX226 := hid (btr DX224.out DbX226.out)
          have UX226 := hid (DX224.out.size)
          (try go_wp2_with fail)
          refine hK.out _ _ ?_ (fun hHeld => ?_)
          · (try dsimp only); exact Y10.out _ (btr BV51.out DX226.out)
          clear hK K
          try simp only [List.getElem_toArray, List.getElem_cons_succ, List.getElem_cons_zero, Act.put, List.setIfInBounds_toArray, List.set_cons_zero, List.set_cons_succ]
          refine' wpAnyH_take (i := 12) (oi := _) (v := _) rfl (by kernel_rfl) (by kernel_rfl) (by kernel_rfl) (fun _ _ _ h => h) (Or.inl ⟨by kernel_rfl, ?_⟩) (by assumption) ?_
          rotate_left
          · (intro w hSw; (try dsimp only at hSw); go_simp; try (with_reducible rfl))
          try simp only [List.getElem_toArray, List.getElem_cons_succ, List.getElem_cons_zero, Act.put, List.setIfInBounds_toArray, List.set_cons_zero, List.set_cons_succ]
          refine wpAnyH_ready (rs := [14]) (by kernel_rfl) (by simp) ?_
          refine (AllReadyH.cons (o := _) rfl (fun K hK => ?_) AllReadyH.nil)
          refine step_store_row (by rfl) 27 (.tmp 9) (.tmp 85) (by rfl) g221 #[.int .i64 ((cv : Nat) : Int), .int .i64 ((mv : Nat) : Int), .slice none 0 0, .slice none 0 0, .int .u64 ((hv : Nat) : Int), .int .u64 ((sv : Nat) : Int)] (by rfl) (by rfl) 27 _ r227.out infoB (by rfl) (by simp [Value.oneCell']) ?_
          obtain ⟨Y228, hY228⟩ : ∃ Y, X226.setRow g221 #[.int .i64 ((cv : Nat) : Int), .int .i64 ((mv : Nat) : Int), .slice none 0 0, .slice none 0 0, .int .u64 ((hv : Nat) : Int), .int .u64 ((sv : Nat) : Int)] = Y := ⟨_, rfl⟩
          have KY228 := hid (show Kp (fun j => j = g221) X226 Y228 from by rw [← hY228]; exact setRow_kp _ _ _)
          have AY228 := hid (show Y228.heap[g221]? = some (.cells #[.int .i64 ((cv : Nat) : Int), .int .i64 ((mv : Nat) : Int), .slice none 0 0, .slice none 0 0, .int .u64 ((hv : Nat) : Int), .int .u64 ((sv : Nat) : Int)] 27 (0, 0)) from by rw [← hY228]; exact setRow_heap X226 g221 _ _ 27 (0, 0) r227.out)
          have DY228 := hid (show Below V51.heap.size V51 Y228 from by rw [← hY228]; exact setRow_below DX226.out yg221)
          rw [hY228]
          refine hK.out _ _ ?_ (fun hHeld => ?_)
          · (try dsimp only); exact Y10.out _ (btr BV51.out DY228.out)
          clear hK K hY228
          try simp only [List.getElem_toArray, List.getElem_cons_succ, List.getElem_cons_zero, Act.put, List.setIfInBounds_toArray, List.set_cons_zero, List.set_cons_succ]
          refine wpAnyH_done (by kernel_rfl) ?_ _
          exact ⟨g221, by kernel_rfl, DY228, AY228, yg221⟩
      rintro R3 W2 ⟨BW2, Q3, LR⟩
      have Q4 := hid (row_on Q2.out BW2.out)
      have BV2 := hid (btr BV51.out BW2.out)
      have BVW := hid BV2.out
      have NR := hid (show ¬ R3 = R1 ∧ w.heap.size ≤ R3 from by have := row_lt Q2.out; have := LR.out; have := BV51.out.size; refine ⟨?_, ?_⟩ <;> omega)
      clear Q1 Q2 BW2 LR TD SM T8 T11 T19 Y10 TB TS BV
      try simp only [List.getElem_toArray, List.getElem_cons_succ, List.getElem_cons_zero, Act.put, List.setIfInBounds_toArray, List.set_cons_zero, List.set_cons_succ]
      have CO1 := hid (rrorders_any xs b o cap n 31 nb W2 HX.out (fun i hi => (BV2.out.cell (p := ⟨b, o + i, none⟩) (World.block_lt_of_cell? w _ (HB.out i hi))).trans (HB.out i hi)) HL.out HN.out (by have := HS.out; have := HD.out; omega) (by have := LB.out; omega))
      rw [show ((31 : Nat) : Int) = 31 from rfl] at CO1
      go_upto_region 20 with (go_at_call 28; with_reducible refine CO1.out.mono ?_; rintro e W3 ⟨v1, rfl, h1, h2⟩; obtain ⟨p1, c1, rfl⟩ := own_form h1; have O1 := hid h1; have B3 := hid h2; clear h1 h2; obtain ⟨y0, y1, y2, y3, y4, y5⟩ := row6 (row_on Q3.out B3.out); have z1 := row_frz (row_on Q3.out B3.out) 2)
      obtain ⟨U3, hU3⟩ : ∃ U, W3.setCell ⟨R3, 2, none⟩ (.slice p1 nb c1) = U := ⟨_, rfl⟩
      have S3 := hid (show Kp (fun b => b = R3) W3 U3 from by rw [← hU3]; exact Kp.set _ _ _ _)
      have Q5 := hid (show U3.heap[R3]? = some (.cells #[.int .i64 ((cv : Nat) : Int), .int .i64 ((mv : Nat) : Int), .slice p1 nb c1, .slice none 0 0, .int .u64 ((hv : Nat) : Int), .int .u64 ((sv : Nat) : Int)] 27 (0, 0)) from by rw [← hU3]; exact set_row _ (row_on Q3.out B3.out))
      have Q6 := hid (S3.out.row (row_on Q4.out B3.out) (fun e => NR.out.1 e.symm))
      have O2 := hid (own_kp O1.out S3.out (fun g hg => Cp.own_ne O1.out (row_on Q3.out B3.out) g hg))
      have BVa := hid (BV2.out.trans (B3.out.mono BV2.out.size))
      have BV3 := hid (BVa.out.trans (S3.out.below BVa.out.size (fun q hq e => by have := NR.out.2; omega)))
      (try rw [hU3])
      clear hU3 y0 y1 y2 y3 y4 y5 z1 CO1 Q3 Q4 O1 B3 S3 BV2 BVa
      have w29 : IntKind.i64.wrap (29 * (nb : Int)) = 29 * (nb : Int) := by have := LB.out; rw [IntKind.wrap_i64]; omega
      obtain ⟨P2, hP2⟩ : ∃ z, 31 + 29 * nb = z := ⟨_, rfl⟩
      have HP2 := hid hP2
      have w31 : IntKind.i64.wrap (31 + 29 * (nb : Int)) = (P2 : Int) := by have := LB.out; rw [IntKind.wrap_i64]; omega
      have CO2 := hid (rrorders_any xs b o cap n (31 + 29 * nb) ns U3 HX.out (fun i hi => (BV3.out.cell (p := ⟨b, o + i, none⟩) (World.block_lt_of_cell? w _ (HB.out i hi))).trans (HB.out i hi)) HL.out HN.out (by have := HS.out; have := HD.out; omega) (by have := LS.out; omega))
      rw [hP2] at CO2
      clear hP2
      go_upto_region 21 with (go_at_call 28; with_reducible refine CO2.out.mono ?_; rintro e W4 ⟨v2, rfl, h1, h2⟩; obtain ⟨p2, c2, rfl⟩ := own_form h1; have O3 := hid h1; have B4 := hid h2; clear h1 h2; obtain ⟨y0, y1, y2, y3, y4, y5⟩ := row6 (row_on Q5.out B4.out); have z1 := row_frz (row_on Q5.out B4.out) 3)
      obtain ⟨U4, hU4⟩ : ∃ U, W4.setCell ⟨R3, 3, none⟩ (.slice p2 ns c2) = U := ⟨_, rfl⟩
      have S3 := hid (show Kp (fun b => b = R3) W4 U4 from by rw [← hU4]; exact Kp.set _ _ _ _)
      have Q7 := hid (show U4.heap[R3]? = some (.cells #[.int .i64 ((cv : Nat) : Int), .int .i64 ((mv : Nat) : Int), .slice p1 nb c1, .slice p2 ns c2, .int .u64 ((hv : Nat) : Int), .int .u64 ((sv : Nat) : Int)] 27 (0, 0)) from by rw [← hU4]; exact set_row _ (row_on Q5.out B4.out))
      have Q8 := hid (S3.out.row (row_on Q6.out B4.out) (fun e => NR.out.1 e.symm))
      have O4 := hid (own_kp (own_on O2.out B4.out) S3.out (fun g hg => Cp.own_ne (own_on O2.out B4.out) (row_on Q5.out B4.out) g hg))
      have O5 := hid (own_kp O3.out S3.out (fun g hg => Cp.own_ne O3.out (row_on Q5.out B4.out) g hg))
      have BVa := hid (BV3.out.trans (B4.out.mono BV3.out.size))
      have BV4 := hid (BVa.out.trans (S3.out.below BVa.out.size (fun q hq e => by have := NR.out.2; omega)))
      have L3 := hid (show w.heap.size ≤ U3.heap.size from BV3.out.size)
      have L2 := hid (show w.heap.size ≤ W2.heap.size from by have := BV3.out.size; first | omega | exact BVW.out.size)
      (try rw [hU4])
      clear hU4 y0 y1 y2 y3 y4 y5 z1 CO2 Q5 Q6 O2 O3 B4 S3 BV3 BVa
      have O5 := hid (Cp.own_base O5.out L3.out)
      rw [← HP2.out] at O5
      have O4 := hid (Cp.own_base O4.out L2.out)
      have CV := hid (dvalid' xs 0 (.inl ⟨HYES.out, rfl⟩) HX.out nb ns cv mv hv sv w.heap.size c1 c2 p1 p2 U4 HNB.out HNS.out HCV.out HMV.out HHV.out HSV.out O4.out O5.out)
      obtain ⟨y0, y1, y2, y3, y4, y5⟩ := row6 Q7.out
      go_upto_region 23 with (go_at_call 19; with_reducible refine CV.out.mono ?_; rintro e W5 ⟨rfl, h1⟩; have B5 := hid h1; clear h1)
      clear y0 y1 y2 y3 y4 y5
      obtain ⟨y0, y1, y2, y3, y4, y5⟩ := row6 (row_on Q7.out B5.out)
      have Q9 := hid (row_on Q8.out B5.out)
      have BV5 := hid (BV4.out.trans (B5.out.mono BV4.out.size))
      have O6 := hid (own_on O4.out B5.out)
      have O7 := hid (own_on O5.out B5.out)
      obtain ⟨x0, x1, x2, x3, x4, x5⟩ := row6 Q9.out
      have g0 := row_frz Q9.out 0
      have g1 := row_frz Q9.out 1
      have g2 := row_frz Q9.out 2
      have g3 := row_frz Q9.out 3
      have g4 := row_frz Q9.out 4
      have g5 := row_frz Q9.out 5
      obtain ⟨Y, hY⟩ : ∃ Y, (((((((W5).setCell ⟨R1, 0, none⟩ (.int .i64 ((cv : Nat) : Int))).setCell ⟨R1, 1, none⟩ (.int .i64 ((mv : Nat) : Int))).setCell ⟨R1, 2, none⟩ (.slice p1 nb c1)).setCell ⟨R1, 3, none⟩ (.slice p2 ns c2)).setCell ⟨R1, 4, none⟩ (.int .u64 ((hv : Nat) : Int))).setCell ⟨R1, 5, none⟩ (.int .u64 ((sv : Nat) : Int))) = Y := ⟨_, rfl⟩
      have KY := hid (show Kp (fun b => b = R1) (W5) Y from by rw [← hY]; exact chain6_kp _ _ _ _ _ _ _ _)
      have QY := hid (show Y.heap[R1]? = some (.cells #[.int .i64 ((cv : Nat) : Int), .int .i64 ((mv : Nat) : Int), .slice p1 nb c1, .slice p2 ns c2, .int .u64 ((hv : Nat) : Int), .int .u64 ((sv : Nat) : Int)] 27 (0, 0)) from by rw [← hY]; exact chain6 _ _ _ _ _ _ Q9.out)
      go_wp2
      (try rw [hY])
      exact bodyPost_ret (res3 _ 2 3 4 Tryd.results11 _ _ R1 #[.int .i64 ((cv : Nat) : Int), .int .i64 ((mv : Nat) : Int), .slice p1 nb c1, .slice p2 ns c2, .int .u64 ((hv : Nat) : Int), .int .u64 ((sv : Nat) : Int)] _ _ (by rfl) (by rfl) (by rfl) QY.out infoB) rfl ⟨p1, c1, p2, c2, by rw [HCV.out, HMV.out, HHV.out, HSV.out]; rfl, own_kp O6.out KY.out (fun g hg => Cp.own_ne O6.out Q9.out g hg), own_kp O7.out KY.out (fun g hg => Cp.own_ne O7.out Q9.out g hg), (BV5.out.trans (KY.out.below BV5.out.size (fun q hq e => by have := HR1.out; omega)))⟩
end Go.Proofs.YtjpkodllemoniaaDoor.Wi
