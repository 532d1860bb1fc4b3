/-
  reader.orders.
-/
import Derived.Test.YtjpkodllemoniaaDoorXa
import Derived.OwnWalk
import Derived.Deep.MidRow
import Derived.Laws.IdiomCopy
import Derived.Test.YtjpkodllemoniaaDoorCpV
namespace Go.Proofs.YtjpkodllemoniaaDoor.Wi
open Go.RowKit Go.Deep Go.Proofs.YtjpkodllemoniaaDoor.Crc
open Go.Proofs.YtjpkodllemoniaaDoor.Cp (btr ball row_on row_cell row_lt row_frz row_ne set_row row6 Kp Or orow infoX33all)
set_option linter.unusedVariables false
set_option linter.unusedSimpArgs false
set_option maxHeartbeats 8000000
set_option maxRecDepth 100000
attribute [local go_sem ↓] Go.wp_at_zero Go.wp_at_succ
theorem heap_setCells (G : Nat) (t : TypeId) : ∀ (vs : List Value) (o : Nat) (w : World) (cur : Array Value), w.heap[G]? = some (.cells cur t (0, 0)) → ∃ cur' : Array Value, (w.setCells G o vs).heap[G]? = some (.cells cur' t (0, 0)) ∧ cur'.size = cur.size
  | [], o, w, cur, h => ⟨cur, h, rfl⟩
  | v :: vs, o, w, cur, h => by
    obtain ⟨cur', h1, h2⟩ := heap_setCells G t vs (o + 1) _ _ (heap_setCell_same w G o cur t v h)
    exact ⟨cur', h1, by rw [h2]; simp⟩
theorem setCells_kp (G : Nat) : ∀ (vs : List Value) (o : Nat) (w : World), Kp (fun b => b = G) w (w.setCells G o vs)
  | [], o, w => Kp.refl _ _
  | v :: vs, o, w => (Kp.set w G o v).trans (setCells_kp G vs (o + 1) _) (fun _ _ h => h)
/-- orders in a row, so many of them known. -/
def Orw (w : World) (G k i : Nat) (F : Nat → Or) : Prop := ∃ cur : Array Value, w.heap[G]? = some (.cells cur 46 (0, 0)) ∧ cur.size = k * 7 ∧ ∀ j, j < i → ∀ q, q < 7 → w.cell? ⟨G, j * 7 + q, none⟩ = (orow (F j)).toList[q]?
theorem Orw.kp {w w' : World} {G k i : Nat} {F : Nat → Or} (h : Orw w G k i F) {P : Nat → Prop} (p : Kp P w w') (hG : ¬ P G) : Orw w' G k i F := by
  obtain ⟨cur, h1, h2, h3⟩ := h
  have r := p.row h1 hG
  exact ⟨cur, r, h2, fun j hj q hq => by rw [row_cell r, ← row_cell h1]; exact h3 j hj q hq⟩
theorem orow_one (x : Or) : (orow x).all (·.oneCell') = true := all_oneCell_toArray (cs := (orow x).toList) (fun v hv => by
  simp only [orow, List.mem_cons, List.not_mem_nil, or_false] at hv
  rcases hv with rfl | rfl | rfl | rfl | rfl | rfl | rfl <;> rfl)
theorem orow_len (x : Or) : (orow x).toList.length = 7 := rfl
theorem Orw.there {w : World} {G k i : Nat} {F : Nat → Or} (h : Orw w G k i F) {j : Nat} (hj : j < k) : w.there G (j * 7) 7 := fun q hq => by
  obtain ⟨cur, h1, h2, _⟩ := h
  refine ⟨?_, row_frz h1 _⟩
  rw [row_cell h1, Array.getElem?_eq_getElem (by omega)]
  rfl
theorem Orw.next {w : World} {G k i : Nat} {F : Nat → Or} (h : Orw w G k i F) (hi : i < k) : Orw (w.setCells G (i * 7) (orow (F i)).toList) G k (i + 1) F := by
  have th := h.there hi
  obtain ⟨cur, h1, h2, h3⟩ := h
  obtain ⟨cur', e1, e2⟩ := heap_setCells G 46 (orow (F i)).toList (i * 7) w cur h1
  refine ⟨cur', e1, by rw [e2, h2], fun j hj q hq => ?_⟩
  by_cases c : j = i
  · subst c
    have := World.rangeAt_setCells_same w G (j * 7) (orow (F j)).toList (by rw [orow_len]; exact th) q ((orow (F j)).toList[q]'(by rw [orow_len]; exact hq)) (by simp)
    rw [this]
    simp
  · have : (w.setCells G (i * 7) (orow (F i)).toList).cell? ⟨G, j * 7 + q, none⟩ = w.cell? ⟨G, j * 7 + q, none⟩ := World.cell?_setCells_out G _ _ _ _ (fun _ _ => .inl (by show j * 7 + q < i * 7; omega))
    rw [this]
    exact h3 j (by omega) q hq
theorem rdr_congr {w : World} {B g o n c o' n' c' : Nat} {xs ys : List Nat} (h : Rdr w B g o n c xs) (e1 : o = o') (e2 : n = n') (e3 : c = c') (e4 : xs = ys) : Rdr w B g o' n' c' ys := by
  subst e1 e2 e3 e4
  exact h
theorem rorders_any {B g o n c n' k : Nat} {xs : List Nat} (w : World) (h : Rdr w B g o n c xs) (e : n' + 29 * k = n) (hk : k ≤ 1000000) :
    Calls Tryd.prog 26 #[.pointer (some ⟨B, 0, none⟩), .int .i64 k] w fun e w' => ∃ G, e = .returned (.slice (some ⟨G, 0, none⟩) k k) ∧ Orw w' G k k (fun j => rdo (xs.drop (29 * j))) ∧ w.heap.size ≤ G ∧ Rdr w' B g (o + 29 * k) n' (c - 29 * k) (xs.drop (29 * k)) ∧ Kp (fun b => b = B) w w' := by
  obtain ⟨i0, hi, hz0, hz1, hz2⟩ := info_parts infoX33all
  have H0 := hid h
  have HE := hid e
  have HK := hid hk
  have hcap := hid h.cap
  obtain ⟨F, hF⟩ : ∃ F : Nat → Or, (fun j => rdo (xs.drop (29 * j))) = F := ⟨_, rfl⟩
  have HF := hid hF
  rw [hF]
  have OR := hid (fun (U : World) (q d m m' : Nat) (ys : List Nat) (e : m' + 29 = m) (hU : Rdr U B g q m d ys) => rorder1_any U hU e)
  clear h e hk hF
  go_enter Tryd.func26, Tryd.ntmps26
  go_upto_region 2 with (refine wpList_make_full w (by rfl) (.tmp 7) (.tmp 7) 24 (by rfl) w.heap.size 46 i0 _ 7 Tryd.underlying24 hi hz0 hz1 .i64 .i64 (k : Int) (k : Int) k (by rfl) (by rfl) rfl rfl (by rw [hz2]; have := HK.out; omega) (by unfold maxLen; have := HK.out; omega) (Nat.le_refl _) ?_; intro w1 hown hgrow; have O1 := hid hown; have G1 := hid hgrow; clear hown hgrow)
  obtain ⟨G, hG⟩ : ∃ G, w.heap.size = G := ⟨_, rfl⟩
  have HG := hid hG
  have KG := hid (show Kp (fun b => b = B ∨ b = G) w w1 from by
    obtain ⟨a1, a2, a3, a4, a5⟩ := G1.out
    exact ⟨a1, a2, a3, a4, fun b hb _ => a5 b hb (fun e => by cases e)⟩)
  have OW0 := hid (show Orw w1 G k 0 F from by
    rcases O1.out.2 with ⟨e, _⟩ | ⟨g', c', cur, e, _, hg, _, _, hs, _⟩
    · cases e
    · simp only [Value.slice.injEq, Option.some.injEq, Addr.mk.injEq, and_true, true_and] at e
      obtain ⟨rfl, rfl⟩ := e
      rw [hG] at hg
      exact ⟨cur, hg, hs, fun j hj => absurd hj (Nat.not_lt_zero _)⟩)
  have NB := hid (show ¬ B = G ∧ ¬ g = G from by
    have h1 := row_lt H0.out.row
    obtain ⟨cur, fz, h5⟩ := H0.out.row5
    have h2 := row_lt h5
    exact ⟨by omega, by omega⟩)
  have RD0 := hid (show Rdr w1 B g o n c xs from by
    obtain ⟨a1, a2, a3, a4, a5⟩ := G1.out
    exact H0.out.kp (P := fun _ => False) ⟨a1, a2, a3, a4, fun b hb _ => a5 b hb (fun e => by cases e)⟩ id id)
  rw [hG]
  clear hi hz0 hz1 hz2 hG O1 G1 H0
  go_upto_region 3 with fail
  go_loopw [11] (fun iv wr => ∃ i : Nat, i ≤ k ∧ iv = .int .i64 i ∧ Hid (Rdr wr B g (o + 29 * i) (n - 29 * i) (c - 29 * i) (xs.drop (29 * i))) ∧ Hid (Orw wr G k i F) ∧ Hid (Kp (fun b => b = B ∨ b = G) w wr)) (fun iv _ => k - (intOf iv).toNat)
  case atStart => exact ⟨0, Nat.zero_le _, rfl, hid (by simpa using RD0.out), OW0, KG⟩
  case round =>
    clear RD0 OW0 KG
    obtain ⟨i, hik, rfl, RD, OW, KW⟩ := hrel
    by_cases hlt : i < k
    · have HLT := hid hlt
      have i0' : (0 : Int) ≤ (i : Int) := by omega
      have i1 : (i : Int) < (k : Int) := by omega
      have wi : IntKind.i64.wrap ((i : Int) + 1) = ((i + 1 : Nat) : Int) := by have := HK.out; rw [IntKind.wrap_i64]; omega
      have CT := hid (OR.out wr (o + 29 * i) (c - 29 * i) (n - 29 * i) (n - 29 * (i + 1)) (xs.drop (29 * i)) (by have := HE.out; omega) RD.out)
      have FI := hid (show rdo (xs.drop (29 * i)) = F i from by rw [← HF.out])
      rw [FI.out] at CT
      clear hlt hik
      go_upto_region 6 with (first
        | (go_at_call 42; with_reducible refine CT.out.mono ?_; rintro e V ⟨rfl, h1, h2⟩; have R1 := hid h1; have K1 := hid h2; clear h1 h2)
        | (refine wpList_store_mid (by rfl) 46 (.tmp 18) (.tmp 17) (by rfl) G (i * 7) (orow (F i)) (by rfl) (by rfl) ((OW.out.kp K1.out (fun e => NB.out.1 e.symm)).there HLT.out) infoR (orow_one _) ?_))
      obtain ⟨Y, hY⟩ : ∃ Y, V.setCells G (i * 7) (orow (F i)).toList = Y := ⟨_, rfl⟩
      have OW2 := hid (show Orw Y G k (i + 1) F from by rw [← hY]; exact (OW.out.kp K1.out (fun e => NB.out.1 e.symm)).next HLT.out)
      have KP := hid (show Kp (fun b => b = G) V Y from by rw [← hY]; exact setCells_kp _ _ _ _)
      have RD2 := hid (R1.out.kp KP.out NB.out.1 NB.out.2)
      have KW2 := hid (show Kp (fun b => b = B ∨ b = G) w Y from (KW.out.trans K1.out (fun _ _ h => .inl h)).trans KP.out (fun _ _ h => .inr h))
      rw [hY]
      clear hY OW RD KW R1 K1 KP CT
      go_wp2
      go_roundw
      case rel => exact ⟨i + 1, HLT.out, by go_num, hid (rdr_congr RD2.out (by omega) rfl (by omega) (by rw [List.drop_drop]; rfl)), OW2, KW2⟩
      case measure => have := HLT.out; simp [intOf]; omega
    · obtain rfl : i = k := by omega
      have iF : decide ((i : Int) < (i : Int)) = false := by simp
      go_wp2
      go_ret
      refine ⟨G, rfl, OW.out, Nat.le_of_eq HG.out, rdr_congr RD.out rfl (by have := HE.out; omega) rfl rfl, ⟨KW.out.os, KW.out.tape, KW.out.output, KW.out.size, fun b hb hn => KW.out.obj b hb (fun h => h.elim hn (fun e => by have := HG.out; omega))⟩⟩
end Go.Proofs.YtjpkodllemoniaaDoor.Wi
namespace Go.Proofs.YtjpkodllemoniaaDoor.Wi
open Go.RowKit Go.Deep Go.Proofs.YtjpkodllemoniaaDoor.Crc
open Go.Proofs.YtjpkodllemoniaaDoor.Cp (btr ball row_on row_cell row_lt row_ne row6 Kp Or Osz orow ors ors_len ors_app own_form own_empty own_lo own_on step_osz bdrew1)
set_option linter.unusedVariables false
set_option linter.unusedSimpArgs false
set_option maxHeartbeats 16000000
set_option maxRecDepth 100000
attribute [local go_sem ↓] Go.wp_at_zero Go.wp_at_succ
theorem nat_drop (xs : List Nat) (P j k : Nat) : nat' (xs.drop P) j k = nat' xs (P + j) k := by unfold nat'; rw [List.drop_drop]
theorem nat_one {xs : List Nat} {j : Nat} (h : j < xs.length) : nat' xs j 1 = xs[j] := by
  unfold nat'
  rw [List.drop_eq_getElem_cons h]
  simp only [List.take_succ_cons, List.take_zero, num]
  omega
/-- orders read from bytes. -/
def rdos (xs : List Nat) (o k : Nat) : List Or := (List.range k).map fun j => rdo (xs.drop (o + 29 * j))
theorem rdos_len (xs : List Nat) (o k : Nat) : (rdos xs o k).length = k := by simp [rdos]
theorem rdos_snoc (xs : List Nat) (o k : Nat) : rdos xs o (k + 1) = rdos xs o k ++ [rdo (xs.drop (o + 29 * k))] := by simp [rdos, List.range_succ]
theorem osz_one {w : World} {g : Nat} {x : Or} (h : w.heap[g]? = some (.cells (orow x) 46 (0, 0))) : Osz w (some ⟨g, 0, none⟩) [x] := fun i hi => by
  have h0 : i = 0 := by simpa using hi
  subst h0
  refine ⟨g, 0, rfl, row_lt h, fun j hj => ?_⟩
  have := row_cell h j
  simpa using this
theorem rrorders_any (xs : List Nat) (b o cap n at' k : Nat) (w : World) (hx : Oct xs) (hB : Bs w b o xs) (hl : xs.length = n) (hn : n < 9223372036854775000) (hfit : at' + 29 * k ≤ n) (hk : k ≤ 1000000) :
    Calls Tryd.prog 28 #[.slice (some ⟨b, o, none⟩) n cap, .int .i64 at', .int .i64 k] w fun e w' => ∃ v, e = .returned v ∧ w'.ownsRow w.heap.size 46 7 v k (ors (rdos xs at' k)) ∧ Below w.heap.size w w' := by
  have HB := hid hB
  have HL := hid hl
  have HF := hid hfit
  have HK := hid hk
  have HN := hid hn
  have HX := hid hx
  have RG := hid (fun (U : World) (hU : Below w.heap.size w U) (p q : Nat) (hq : q ≤ 8) (hp : p + q ≤ n) => show Calls Tryd.prog 27 #[.slice (some ⟨b, o, none⟩) n cap, .int .i64 p, .int .i64 q] U fun e w' => e = .returned (.int .u64 (nat' xs p q : Nat)) ∧ w' = U from
    rget_any xs ((xs.drop p).take q) b o cap n p q U (oct_take (oct_drop HX.out p) q) (fun i hi => (hU.cell (p := ⟨b, o + i, none⟩) (World.block_lt_of_cell? w _ (HB.out i hi))).trans (HB.out i hi)) HL.out HN.out rfl (by rw [List.length_take, List.length_drop, HL.out]; omega) hq)
  have BY := hid (fun (j : Nat) (hj : j < n) => show ∀ U, Below w.heap.size w U → U.cell? ⟨b, o + j, none⟩ = some (.int .u8 ((nat' xs j 1 : Nat) : Int)) from fun U hU => by
    rw [nat_one (by rw [HL.out]; exact hj)]
    exact (hU.cell (p := ⟨b, o + j, none⟩) (World.block_lt_of_cell? w _ (HB.out j (by rw [HL.out]; exact hj)))).trans (HB.out j (by rw [HL.out]; exact hj)))
  clear hB hl hfit hk hn hx
  go_enter Tryd.func28, Tryd.ntmps28
  go_upto_region 2 with fail
  go_upto_region 3 with fail
  go_loopw [7, 8, 9] (fun ov iv _ wr => ∃ i : Nat, i ≤ k ∧ iv = .int .i64 i ∧ Hid (wr.ownsRow w.heap.size 46 7 ov i (ors (rdos xs at' i))) ∧ Hid (Below w.heap.size w wr)) (fun _ iv _ _ => k - (intOf iv).toNat)
  case atStart => exact ⟨0, Nat.zero_le _, rfl, ⟨by simp [rdos, ors], .inl ⟨rfl, rfl⟩⟩, Below.refl _ _⟩
  case round =>
    obtain ⟨i, hik, rfl, OW, BW⟩ := hrel
    by_cases hlt : i < k
    · have HLT := hid hlt
      have i0' : (0 : Int) ≤ (i : Int) := by omega
      have i1 : (i : Int) < (k : Int) := by omega
      have wi : IntKind.i64.wrap ((i : Int) + 1) = ((i + 1 : Nat) : Int) := by have := HK.out; rw [IntKind.wrap_i64]; omega
      obtain ⟨P, hP⟩ : ∃ P, at' + 29 * i = P := ⟨_, rfl⟩
      have HP := hid hP
      have PN := hid (show P + 29 ≤ n from by have := HF.out; omega)
      have m1 : IntKind.i64.wrap (29 * (i : Int)) = ((29 * i : Nat) : Int) := by have := HK.out; rw [IntKind.wrap_i64]; omega
      have m2 : IntKind.i64.wrap ((at' : Int) + ((29 * i : Nat) : Int)) = ((P : Nat) : Int) := by have := PN.out; have := HN.out; rw [IntKind.wrap_i64]; omega
      have m3 : wrap64 ((at' : Int) + 29 * (i : Int)) = ((P : Nat) : Int) := by have := PN.out; have := HN.out; unfold wrap64; omega
      have w8 : IntKind.i64.wrap ((P : Int) + 8) = (P : Int) + 8 := by have := PN.out; have := HN.out; rw [IntKind.wrap_i64]; omega
      have w12 : IntKind.i64.wrap ((P : Int) + 12) = (P : Int) + 12 := by have := PN.out; have := HN.out; rw [IntKind.wrap_i64]; omega
      have w13 : IntKind.i64.wrap ((P : Int) + 13) = (P : Int) + 13 := by have := PN.out; have := HN.out; rw [IntKind.wrap_i64]; omega
      have w17 : IntKind.i64.wrap ((P : Int) + 17) = (P : Int) + 17 := by have := PN.out; have := HN.out; rw [IntKind.wrap_i64]; omega
      have w21 : IntKind.i64.wrap ((P : Int) + 21) = (P : Int) + 21 := by have := PN.out; have := HN.out; rw [IntKind.wrap_i64]; omega
      have w25 : IntKind.i64.wrap ((P : Int) + 25) = (P : Int) + 25 := by have := PN.out; have := HN.out; rw [IntKind.wrap_i64]; omega
      have pt : ((P : Int) + 12).toNat = P + 12 := by omega
      have c1 : IntKind.u32.wrap ((nat' xs (P + 8) 4 : Nat) : Int) = ((nat' xs (P + 8) 4 : Nat) : Int) := by have := nat_lt HX.out (P + 8) 4; rw [IntKind.wrap_u32]; omega
      have c2 : IntKind.i64.wrap ((nat' xs (P + 12) 1 : Nat) : Int) = ((nat' xs (P + 12) 1 : Nat) : Int) := by have := nat_lt HX.out (P + 12) 1; rw [IntKind.wrap_i64]; omega
      have c3 : IntKind.i64.wrap ((nat' xs (P + 13) 4 : Nat) : Int) = ((nat' xs (P + 13) 4 : Nat) : Int) := by have := nat_lt HX.out (P + 13) 4; rw [IntKind.wrap_i64]; omega
      have p1 : (P : Int) + 12 < (n : Int) := by have := PN.out; omega
      have p0 : (0 : Int) ≤ (P : Int) + 12 := by omega
      have T0 := hid (fun (U : World) (hU : Below w.heap.size w U) => show Calls Tryd.prog 27 #[.slice (some ⟨b, o, none⟩) n cap, .int .i64 (P : Int), .int .i64 8] U fun e w' => e = .returned (.int .u64 (nat' xs P 8 : Nat)) ∧ w' = U from by have h := RG.out U hU P 8 (by decide) (by have := PN.out; omega); exact h)
      have T1 := hid (fun (U : World) (hU : Below w.heap.size w U) => show Calls Tryd.prog 27 #[.slice (some ⟨b, o, none⟩) n cap, .int .i64 ((P : Int) + 8), .int .i64 4] U fun e w' => e = .returned (.int .u64 (nat' xs (P + 8) 4 : Nat)) ∧ w' = U from by have h := RG.out U hU (P + 8) 4 (by decide) (by have := PN.out; omega); exact h)
      have T3 := hid (fun (U : World) (hU : Below w.heap.size w U) => show Calls Tryd.prog 27 #[.slice (some ⟨b, o, none⟩) n cap, .int .i64 ((P : Int) + 13), .int .i64 4] U fun e w' => e = .returned (.int .u64 (nat' xs (P + 13) 4 : Nat)) ∧ w' = U from by have h := RG.out U hU (P + 13) 4 (by decide) (by have := PN.out; omega); exact h)
      have T4 := hid (fun (U : World) (hU : Below w.heap.size w U) => show Calls Tryd.prog 27 #[.slice (some ⟨b, o, none⟩) n cap, .int .i64 ((P : Int) + 17), .int .i64 4] U fun e w' => e = .returned (.int .u64 (nat' xs (P + 17) 4 : Nat)) ∧ w' = U from by have h := RG.out U hU (P + 17) 4 (by decide) (by have := PN.out; omega); exact h)
      have T5 := hid (fun (U : World) (hU : Below w.heap.size w U) => show Calls Tryd.prog 27 #[.slice (some ⟨b, o, none⟩) n cap, .int .i64 ((P : Int) + 21), .int .i64 4] U fun e w' => e = .returned (.int .u64 (nat' xs (P + 21) 4 : Nat)) ∧ w' = U from by have h := RG.out U hU (P + 21) 4 (by decide) (by have := PN.out; omega); exact h)
      have T6 := hid (fun (U : World) (hU : Below w.heap.size w U) => show Calls Tryd.prog 27 #[.slice (some ⟨b, o, none⟩) n cap, .int .i64 ((P : Int) + 25), .int .i64 4] U fun e w' => e = .returned (.int .u64 (nat' xs (P + 25) 4 : Nat)) ∧ w' = U from by have h := RG.out U hU (P + 25) 4 (by decide) (by have := PN.out; omega); exact h)
      have Y12 := hid (BY.out (P + 12) (by have := PN.out; omega))
      have RO := hid (show rdo (xs.drop P) = (⟨nat' xs P 8, nat' xs (P + 8) 4, nat' xs (P + 12) 1, nat' xs (P + 13) 4, nat' xs (P + 17) 4, nat' xs (P + 21) 4, nat' xs (P + 25) 4⟩ : Or) from by unfold rdo; simp only [nat_drop, Nat.add_zero])
      generalize nat' xs P 8 = v0 at RO T0
      generalize nat' xs (P + 8) 4 = v1 at RO T1 c1
      generalize nat' xs (P + 12) 1 = v2 at RO Y12 c2
      generalize nat' xs (P + 13) 4 = v3 at RO T3 c3
      generalize nat' xs (P + 17) 4 = v4 at RO T4
      generalize nat' xs (P + 21) 4 = v5 at RO T5
      generalize nat' xs (P + 25) 4 = v6 at RO T6
      have RO2 := hid (show rdos xs at' (i + 1) = rdos xs at' i ++ [⟨(v0 : Int), (v1 : Int), (v2 : Int), (v3 : Int), (v4 : Int), (v5 : Int), (v6 : Int)⟩] from by rw [rdos_snoc, HP.out, RO.out])
      clear hlt hik hP RO
      go_upto_region 6 with fail
      rw [m3]
      obtain ⟨V1, hV1⟩ : ∃ U, wr.drew = U := ⟨_, rfl⟩
      have DV1 := hid (show Below wr.heap.size wr V1 from by rw [← hV1]; exact bdrew1 _)
      have BV1 := hid (btr (BW.out) DV1.out)
      refine wp_region_held_drew (S := fun U => U.cell? ⟨b, o + (P + 12), none⟩ = some (.int .u8 ((v2 : Nat) : Int))) (by kernel_rfl) ?_ (fun hHeld => ?_)
      · (try dsimp only); rw [hV1]; exact Y12.out _ BV1.out
      rw [hV1] at hHeld ⊢
      clear hV1
      refine' wpAnyH_take (i := 0) (oi := _) (v := _) rfl (by kernel_rfl) (by kernel_rfl) (by kernel_rfl) (fun _ _ _ h => h) (Or.inl ⟨by kernel_rfl, ?_⟩) (by assumption) ?_
      rotate_left
      · (intro w hSw; (try dsimp only at hSw); go_simp; try (with_reducible rfl))
      try simp only [List.getElem_toArray, List.getElem_cons_succ, List.getElem_cons_zero, Act.put, List.setIfInBounds_toArray, List.set_cons_zero, List.set_cons_succ]
      refine' wpAnyH_take (i := 1) (oi := _) (v := _) rfl (by kernel_rfl) (by kernel_rfl) (by kernel_rfl) (fun _ _ _ h => h) (Or.inl ⟨by kernel_rfl, ?_⟩) (by assumption) ?_
      rotate_left
      · (intro w hSw; (try dsimp only at hSw); go_simp; try (with_reducible rfl))
      try simp only [List.getElem_toArray, List.getElem_cons_succ, List.getElem_cons_zero, Act.put, List.setIfInBounds_toArray, List.set_cons_zero, List.set_cons_succ]
      refine' wpAnyH_take (i := 2) (oi := _) (v := _) rfl (by kernel_rfl) (by kernel_rfl) (by kernel_rfl) (fun _ _ _ h => h) (Or.inl ⟨by kernel_rfl, ?_⟩) (by assumption) ?_
      rotate_left
      · (intro w hSw; (try dsimp only at hSw); go_simp; try (with_reducible rfl))
      try simp only [List.getElem_toArray, List.getElem_cons_succ, List.getElem_cons_zero, Act.put, List.setIfInBounds_toArray, List.set_cons_zero, List.set_cons_succ]
      refine' wpAnyH_take (i := 4) (oi := _) (v := _) rfl (by kernel_rfl) (by kernel_rfl) (by kernel_rfl) (fun _ _ _ h => h) (Or.inl ⟨by kernel_rfl, ?_⟩) (by assumption) ?_
      rotate_left
      · (intro w hSw; (try dsimp only at hSw); go_simp; try (with_reducible rfl))
      try simp only [List.getElem_toArray, List.getElem_cons_succ, List.getElem_cons_zero, Act.put, List.setIfInBounds_toArray, List.set_cons_zero, List.set_cons_succ]
      refine' wpAnyH_take (i := 5) (oi := _) (v := _) rfl (by kernel_rfl) (by kernel_rfl) (by kernel_rfl) (fun _ _ _ h => h) (Or.inl ⟨by kernel_rfl, ?_⟩) (by assumption) ?_
      rotate_left
      · (intro w hSw; (try dsimp only at hSw); go_simp; try (with_reducible rfl))
      try simp only [List.getElem_toArray, List.getElem_cons_succ, List.getElem_cons_zero, Act.put, List.setIfInBounds_toArray, List.set_cons_zero, List.set_cons_succ]
      refine' wpAnyH_take (i := 6) (oi := _) (v := _) rfl (by kernel_rfl) (by kernel_rfl) (by kernel_rfl) (fun _ _ _ h => h) (Or.inl ⟨by kernel_rfl, ?_⟩) (by assumption) ?_
      rotate_left
      · (intro w hSw; (try dsimp only at hSw); go_simp; try (with_reducible rfl))
      try simp only [List.getElem_toArray, List.getElem_cons_succ, List.getElem_cons_zero, Act.put, List.setIfInBounds_toArray, List.set_cons_zero, List.set_cons_succ]
      refine' wpAnyH_take (i := 9) (oi := _) (v := _) rfl (by kernel_rfl) (by kernel_rfl) (by kernel_rfl) (fun _ _ _ h => h) (Or.inl ⟨by kernel_rfl, ?_⟩) (by assumption) ?_
      rotate_left
      · (intro w hSw; (try dsimp only at hSw); go_simp; try (with_reducible rfl))
      try simp only [List.getElem_toArray, List.getElem_cons_succ, List.getElem_cons_zero, Act.put, List.setIfInBounds_toArray, List.set_cons_zero, List.set_cons_succ]
      refine' wpAnyH_take (i := 10) (oi := _) (v := _) rfl (by kernel_rfl) (by kernel_rfl) (by kernel_rfl) (fun _ _ _ h => h) (Or.inl ⟨by kernel_rfl, ?_⟩) (by assumption) ?_
      rotate_left
      · (intro w hSw; (try dsimp only at hSw); go_simp; try (with_reducible rfl))
      try simp only [List.getElem_toArray, List.getElem_cons_succ, List.getElem_cons_zero, Act.put, List.setIfInBounds_toArray, List.set_cons_zero, List.set_cons_succ]
      refine' wpAnyH_take (i := 11) (oi := _) (v := _) rfl (by kernel_rfl) (by kernel_rfl) (by kernel_rfl) (fun _ _ _ h => h) (Or.inl ⟨by kernel_rfl, ?_⟩) (by assumption) ?_
      rotate_left
      · (intro w hSw; (try dsimp only at hSw); go_simp; try (with_reducible rfl))
      try simp only [List.getElem_toArray, List.getElem_cons_succ, List.getElem_cons_zero, Act.put, List.setIfInBounds_toArray, List.set_cons_zero, List.set_cons_succ]
      refine' wpAnyH_take (i := 12) (oi := _) (v := _) rfl (by kernel_rfl) (by kernel_rfl) (by kernel_rfl) (fun _ _ _ h => h) (Or.inl ⟨by kernel_rfl, ?_⟩) (by assumption) ?_
      rotate_left
      · (intro w hSw; (try dsimp only at hSw); go_simp; try (with_reducible rfl))
      try simp only [List.getElem_toArray, List.getElem_cons_succ, List.getElem_cons_zero, Act.put, List.setIfInBounds_toArray, List.set_cons_zero, List.set_cons_succ]
      refine' wpAnyH_take (i := 13) (oi := _) (v := _) rfl (by kernel_rfl) (by kernel_rfl) (by kernel_rfl) (fun _ _ _ h => h) (Or.inl ⟨by kernel_rfl, ?_⟩) (by assumption) ?_
      rotate_left
      · (intro w hSw; (try dsimp only at hSw); go_simp; try (with_reducible rfl))
      try simp only [List.getElem_toArray, List.getElem_cons_succ, List.getElem_cons_zero, Act.put, List.setIfInBounds_toArray, List.set_cons_zero, List.set_cons_succ]
      refine' wpAnyH_take (i := 14) (oi := _) (v := _) rfl (by kernel_rfl) (by kernel_rfl) (by kernel_rfl) (fun _ _ _ h => h) (Or.inl ⟨by kernel_rfl, ?_⟩) (by assumption) ?_
      rotate_left
      · (intro w hSw; (try dsimp only at hSw); go_simp; try (with_reducible rfl))
      try simp only [List.getElem_toArray, List.getElem_cons_succ, List.getElem_cons_zero, Act.put, List.setIfInBounds_toArray, List.set_cons_zero, List.set_cons_succ]
      refine' wpAnyH_take (i := 15) (oi := _) (v := _) rfl (by kernel_rfl) (by kernel_rfl) (by kernel_rfl) (fun _ _ _ h => h) (Or.inl ⟨by kernel_rfl, ?_⟩) (by assumption) ?_
      rotate_left
      · (intro w hSw; (try dsimp only at hSw); go_simp; try (with_reducible rfl))
      try simp only [List.getElem_toArray, List.getElem_cons_succ, List.getElem_cons_zero, Act.put, List.setIfInBounds_toArray, List.set_cons_zero, List.set_cons_succ]
      refine' wpAnyH_take (i := 16) (oi := _) (v := _) rfl (by kernel_rfl) (by kernel_rfl) (by kernel_rfl) (fun _ _ _ h => h) (Or.inl ⟨by kernel_rfl, ?_⟩) (by assumption) ?_
      rotate_left
      · (intro w hSw; (try dsimp only at hSw); go_simp; try (with_reducible rfl))
      try simp only [List.getElem_toArray, List.getElem_cons_succ, List.getElem_cons_zero, Act.put, List.setIfInBounds_toArray, List.set_cons_zero, List.set_cons_succ]
      refine' wpAnyH_take (i := 17) (oi := _) (v := _) rfl (by kernel_rfl) (by kernel_rfl) (by kernel_rfl) (fun _ _ _ h => h) (Or.inl ⟨by kernel_rfl, ?_⟩) (by assumption) ?_
      rotate_left
      · (intro w hSw; (try dsimp only at hSw); go_simp; try (with_reducible rfl))
      try simp only [List.getElem_toArray, List.getElem_cons_succ, List.getElem_cons_zero, Act.put, List.setIfInBounds_toArray, List.set_cons_zero, List.set_cons_succ]
      refine' wpAnyH_take (i := 20) (oi := _) (v := _) rfl (by kernel_rfl) (by kernel_rfl) (by kernel_rfl) (fun _ _ _ h => h) (Or.inl ⟨by kernel_rfl, ?_⟩) (by assumption) ?_
      rotate_left
      · (intro w hSw; (try dsimp only at hSw); go_simp; try (with_reducible rfl))
      try simp only [List.getElem_toArray, List.getElem_cons_succ, List.getElem_cons_zero, Act.put, List.setIfInBounds_toArray, List.set_cons_zero, List.set_cons_succ]
      refine' wpAnyH_take (i := 21) (oi := _) (v := _) rfl (by kernel_rfl) (by kernel_rfl) (by kernel_rfl) (fun _ _ _ h => h) (Or.inl ⟨by kernel_rfl, ?_⟩) (by assumption) ?_
      rotate_left
      · (intro w hSw; (try dsimp only at hSw); go_simp; try (with_reducible rfl))
      try simp only [List.getElem_toArray, List.getElem_cons_succ, List.getElem_cons_zero, Act.put, List.setIfInBounds_toArray, List.set_cons_zero, List.set_cons_succ]
      refine' wpAnyH_take (i := 22) (oi := _) (v := _) rfl (by kernel_rfl) (by kernel_rfl) (by kernel_rfl) (fun _ _ _ h => h) (Or.inl ⟨by kernel_rfl, ?_⟩) (by assumption) ?_
      rotate_left
      · (intro w hSw; (try dsimp only at hSw); go_simp; try (with_reducible rfl))
      try simp only [List.getElem_toArray, List.getElem_cons_succ, List.getElem_cons_zero, Act.put, List.setIfInBounds_toArray, List.set_cons_zero, List.set_cons_succ]
      refine' wpAnyH_take (i := 24) (oi := _) (v := _) rfl (by kernel_rfl) (by kernel_rfl) (by kernel_rfl) (fun _ _ _ h => h) (Or.inl ⟨by kernel_rfl, ?_⟩) (by assumption) ?_
      rotate_left
      · (intro w hSw; (try dsimp only at hSw); go_simp; try (with_reducible rfl))
      try simp only [List.getElem_toArray, List.getElem_cons_succ, List.getElem_cons_zero, Act.put, List.setIfInBounds_toArray, List.set_cons_zero, List.set_cons_succ]
      refine' wpAnyH_take (i := 25) (oi := _) (v := _) rfl (by kernel_rfl) (by kernel_rfl) (by kernel_rfl) (fun _ _ _ h => h) (Or.inl ⟨by kernel_rfl, ?_⟩) (by assumption) ?_
      rotate_left
      · (intro w hSw; (try dsimp only at hSw); go_simp; try (with_reducible rfl))
      try simp only [List.getElem_toArray, List.getElem_cons_succ, List.getElem_cons_zero, Act.put, List.setIfInBounds_toArray, List.set_cons_zero, List.set_cons_succ]
      refine' wpAnyH_take (i := 26) (oi := _) (v := _) rfl (by kernel_rfl) (by kernel_rfl) (by kernel_rfl) (fun _ _ _ h => h) (Or.inl ⟨by kernel_rfl, ?_⟩) (by assumption) ?_
      rotate_left
      · (intro w hSw; (try dsimp only at hSw); go_simp; try (with_reducible rfl))
      try simp only [List.getElem_toArray, List.getElem_cons_succ, List.getElem_cons_zero, Act.put, List.setIfInBounds_toArray, List.set_cons_zero, List.set_cons_succ]
      refine' wpAnyH_take (i := 28) (oi := _) (v := _) rfl (by kernel_rfl) (by kernel_rfl) (by kernel_rfl) (fun _ _ _ h => h) (Or.inl ⟨by kernel_rfl, ?_⟩) (by assumption) ?_
      rotate_left
      · (intro w hSw; (try dsimp only at hSw); go_simp; try (with_reducible rfl))
      try simp only [List.getElem_toArray, List.getElem_cons_succ, List.getElem_cons_zero, Act.put, List.setIfInBounds_toArray, List.set_cons_zero, List.set_cons_succ]
      refine' wpAnyH_take (i := 29) (oi := _) (v := _) rfl (by kernel_rfl) (by kernel_rfl) (by kernel_rfl) (fun _ _ _ h => h) (Or.inl ⟨by kernel_rfl, ?_⟩) (by assumption) ?_
      rotate_left
      · (intro w hSw; (try dsimp only at hSw); go_simp; try (with_reducible rfl))
      try simp only [List.getElem_toArray, List.getElem_cons_succ, List.getElem_cons_zero, Act.put, List.setIfInBounds_toArray, List.set_cons_zero, List.set_cons_succ]
      refine' wpAnyH_take (i := 30) (oi := _) (v := _) rfl (by kernel_rfl) (by kernel_rfl) (by kernel_rfl) (fun _ _ _ h => h) (Or.inl ⟨by kernel_rfl, ?_⟩) (by assumption) ?_
      rotate_left
      · (intro w hSw; (try dsimp only at hSw); go_simp; try (with_reducible rfl))
      try simp only [List.getElem_toArray, List.getElem_cons_succ, List.getElem_cons_zero, Act.put, List.setIfInBounds_toArray, List.set_cons_zero, List.set_cons_succ]
      refine wpAnyH_ready (rs := [3]) (by kernel_rfl) (by simp) ?_
      refine (AllReadyH.cons (o := _) rfl (fun K hK => ?_) AllReadyH.nil)
      go_simp
      go_at_call 27
      with_reducible refine (T0.out _ BV1.out).mono ?_
      rintro e _ ⟨rfl, he⟩
      have he := he.symm
      subst he
      (try go_wp2_with fail)
      refine hK.out _ _ ?_ (fun hHeld => ?_)
      · (try dsimp only); exact Y12.out _ BV1.out
      clear hK K
      try simp only [List.getElem_toArray, List.getElem_cons_succ, List.getElem_cons_zero, Act.put, List.setIfInBounds_toArray, List.set_cons_zero, List.set_cons_succ]
      refine wpAnyH_ready (rs := [7]) (by kernel_rfl) (by simp) ?_
      refine (AllReadyH.cons (o := _) rfl (fun K hK => ?_) AllReadyH.nil)
      go_simp
      go_at_call 27
      with_reducible refine (T1.out _ BV1.out).mono ?_
      rintro e _ ⟨rfl, he⟩
      have he := he.symm
      subst he
      (try go_wp2_with fail)
      refine hK.out _ _ ?_ (fun hHeld => ?_)
      · (try dsimp only); exact Y12.out _ BV1.out
      clear hK K
      try simp only [List.getElem_toArray, List.getElem_cons_succ, List.getElem_cons_zero, Act.put, List.setIfInBounds_toArray, List.set_cons_zero, List.set_cons_succ]
      refine' wpAnyH_take (i := 8) (oi := _) (v := _) rfl (by kernel_rfl) (by kernel_rfl) (by kernel_rfl) (fun _ _ _ h => h) (Or.inl ⟨by kernel_rfl, ?_⟩) (by assumption) ?_
      rotate_left
      · (intro w hSw; (try dsimp only at hSw); go_simp; try (with_reducible rfl))
      try simp only [List.getElem_toArray, List.getElem_cons_succ, List.getElem_cons_zero, Act.put, List.setIfInBounds_toArray, List.set_cons_zero, List.set_cons_succ]
      refine wpAnyH_ready (rs := [18]) (by kernel_rfl) (by simp) ?_
      refine (AllReadyH.cons (o := _) rfl (fun K hK => ?_) AllReadyH.nil)
      go_simp
      go_at_call 27
      with_reducible refine (T3.out _ BV1.out).mono ?_
      rintro e _ ⟨rfl, he⟩
      have he := he.symm
      subst he
      (try go_wp2_with fail)
      refine hK.out _ _ ?_ (fun hHeld => ?_)
      · (try dsimp only); exact Y12.out _ BV1.out
      clear hK K
      try simp only [List.getElem_toArray, List.getElem_cons_succ, List.getElem_cons_zero, Act.put, List.setIfInBounds_toArray, List.set_cons_zero, List.set_cons_succ]
      refine' wpAnyH_take (i := 19) (oi := _) (v := _) rfl (by kernel_rfl) (by kernel_rfl) (by kernel_rfl) (fun _ _ _ h => h) (Or.inl ⟨by kernel_rfl, ?_⟩) (by assumption) ?_
      rotate_left
      · (intro w hSw; (try dsimp only at hSw); go_simp; try (with_reducible rfl))
      try simp only [List.getElem_toArray, List.getElem_cons_succ, List.getElem_cons_zero, Act.put, List.setIfInBounds_toArray, List.set_cons_zero, List.set_cons_succ]
      refine wpAnyH_ready (rs := [23]) (by kernel_rfl) (by simp) ?_
      refine (AllReadyH.cons (o := _) rfl (fun K hK => ?_) AllReadyH.nil)
      go_simp
      go_at_call 27
      with_reducible refine (T4.out _ BV1.out).mono ?_
      rintro e _ ⟨rfl, he⟩
      have he := he.symm
      subst he
      (try go_wp2_with fail)
      refine hK.out _ _ ?_ (fun hHeld => ?_)
      · (try dsimp only); exact Y12.out _ BV1.out
      clear hK K
      try simp only [List.getElem_toArray, List.getElem_cons_succ, List.getElem_cons_zero, Act.put, List.setIfInBounds_toArray, List.set_cons_zero, List.set_cons_succ]
      refine wpAnyH_ready (rs := [27]) (by kernel_rfl) (by simp) ?_
      refine (AllReadyH.cons (o := _) rfl (fun K hK => ?_) AllReadyH.nil)
      go_simp
      go_at_call 27
      with_reducible refine (T5.out _ BV1.out).mono ?_
      rintro e _ ⟨rfl, he⟩
      have he := he.symm
      subst he
      (try go_wp2_with fail)
      refine hK.out _ _ ?_ (fun hHeld => ?_)
      · (try dsimp only); exact Y12.out _ BV1.out
      clear hK K
      try simp only [List.getElem_toArray, List.getElem_cons_succ, List.getElem_cons_zero, Act.put, List.setIfInBounds_toArray, List.set_cons_zero, List.set_cons_succ]
      refine wpAnyH_ready (rs := [31]) (by kernel_rfl) (by simp) ?_
      refine (AllReadyH.cons (o := _) rfl (fun K hK => ?_) AllReadyH.nil)
      go_simp
      go_at_call 27
      with_reducible refine (T6.out _ BV1.out).mono ?_
      rintro e _ ⟨rfl, he⟩
      have he := he.symm
      subst he
      (try go_wp2_with fail)
      refine hK.out _ _ ?_ (fun hHeld => ?_)
      · (try dsimp only); exact Y12.out _ BV1.out
      clear hK K
      try simp only [List.getElem_toArray, List.getElem_cons_succ, List.getElem_cons_zero, Act.put, List.setIfInBounds_toArray, List.set_cons_zero, List.set_cons_succ]
      refine' wpAnyH_take (i := 32) (oi := _) (v := _) rfl (by kernel_rfl) (by kernel_rfl) (by kernel_rfl) (fun _ _ _ h => h) (Or.inl ⟨by kernel_rfl, ?_⟩) (by assumption) ?_
      rotate_left
      · (intro w hSw; (try dsimp only at hSw); go_simp; try (with_reducible rfl))
      try simp only [List.getElem_toArray, List.getElem_cons_succ, List.getElem_cons_zero, Act.put, List.setIfInBounds_toArray, List.set_cons_zero, List.set_cons_succ]
      refine wpAnyH_ready (rs := [33]) (by kernel_rfl) (by simp) ?_
      refine (AllReadyH.cons (o := _) rfl (fun K hK => ?_) AllReadyH.nil)
      go_simp
      obtain ⟨X3, hX3⟩ : ∃ X, V1.alloc (.cells #[.int .u64 v0, .int .u32 v1, .int .i64 v2, .int .i64 v3, .int .u64 v4, .int .u64 v5, .int .u64 v6] 46) = X := ⟨_, rfl⟩
      have bX3 := hid (show Below V1.heap.size V1 X3 from by rw [← hX3]; exact ball _ _)
      obtain ⟨g4, hg4⟩ : ∃ g, V1.heap.size = g := ⟨_, rfl⟩
      have zX3 := hid (show X3.heap[g4]? = some (.cells (orow ⟨(v0 : Int), (v1 : Int), (v2 : Int), (v3 : Int), (v4 : Int), (v5 : Int), (v6 : Int)⟩) 46 (0, 0)) from by rw [← hX3, ← hg4]; exact World.alloc_heap_new _ _)
      have BX3 := hid (btr BV1.out bX3.out)
      have DX3 := hid (btr DV1.out bX3.out)
      have OX := hid (own_on OW.out DX3.out)
      rw [hX3, hg4]
      clear hX3 hg4
      refine hK.out _ _ ?_ (fun hHeld => ?_)
      · (try dsimp only); exact Y12.out _ BX3.out
      clear hK K
      try simp only [List.getElem_toArray, List.getElem_cons_succ, List.getElem_cons_zero, Act.put, List.setIfInBounds_toArray, List.set_cons_zero, List.set_cons_succ]
      refine wpAnyH_ready (rs := [34]) (by kernel_rfl) (by simp) ?_
      refine (AllReadyH.cons (o := _) rfl (fun K hK => ?_) AllReadyH.nil)
      refine step_osz (by rfl) (.tmp 19) (.tmp 52) (by rfl) w.heap.size _ i _ (by rfl) OX.out _ 1 _ 1 rfl (by rfl) (osz_one zX3.out) (fun e => by cases e) (by have := HLT.out; have := HK.out; omega) BX3.out.size (fun v5' w5 hown hgrow => ?_)
      have O5 := hid (show w5.ownsRow w.heap.size 46 7 v5' (i + 1) (ors (rdos xs at' (i + 1))) from by rw [RO2.out, ors_app]; exact hown)
      have B5 := hid (show Below w.heap.size w w5 from BX3.out.grown hgrow BX3.out.size (fun j hj => Cp.own_lo OX.out hj))
      clear hown hgrow
      refine hK.out _ _ ?_ (fun hHeld => ?_)
      · (try dsimp only); exact Y12.out _ B5.out
      clear hK K
      try simp only [List.getElem_toArray, List.getElem_cons_succ, List.getElem_cons_zero, Act.put, List.setIfInBounds_toArray, List.set_cons_zero, List.set_cons_succ]
      refine' wpAnyH_take (i := 35) (oi := _) (v := _) rfl (by kernel_rfl) (by kernel_rfl) (by kernel_rfl) (fun _ _ _ h => h) (Or.inl ⟨by kernel_rfl, ?_⟩) (by assumption) ?_
      rotate_left
      · (intro w hSw; (try dsimp only at hSw); go_simp; try (with_reducible rfl))
      try simp only [List.getElem_toArray, List.getElem_cons_succ, List.getElem_cons_zero, Act.put, List.setIfInBounds_toArray, List.set_cons_zero, List.set_cons_succ]
      refine wpAnyH_done (by kernel_rfl) ?_ _
      clear OW BW OX zX3 BX3 DX3 bX3 T0 T1 T3 T4 T5 T6 Y12 RO2
      go_wp2
      go_roundw
      case rel => exact ⟨i + 1, HLT.out, by go_num, O5, B5⟩
      case measure => have := HLT.out; simp [intOf]; omega
    · obtain rfl : i = k := by omega
      go_wp2
      go_ret
      exact ⟨_, rfl, OW.out, BW.out⟩
end Go.Proofs.YtjpkodllemoniaaDoor.Wi
