/-
  The levels of a side.
-/
import Derived.Test.YtojmcfkbekodpaaRa
import Derived.Test.YtojmcfkbekodpaaRb
import Derived.Laws.AppendOwn
namespace Go.Proofs.Ytojmcfkbekodpaa
open Go.RowKit Go.Deep Go.Shelf
set_option linter.unusedVariables false
set_option linter.unusedSimpArgs false
set_option maxHeartbeats 4000000
set_option maxRecDepth 100000
attribute [local go_sem ↓] Go.wp_at_zero Go.wp_at_succ
/-- the levels of a list: no more than so many. -/
def dpl (s : Int) : Nat → LO → List (Int × Int × Int)
  | 0, _ => []
  | _, [] => []
  | m + 1, x :: r => (x.2.pr, vsum ((x :: r).take (bhd s x.2.pr (x :: r))), (bhd s x.2.pr (x :: r) : Int)) :: dpl s m ((x :: r).drop (bhd s x.2.pr (x :: r)))
def dlc (L : List (Int × Int × Int)) : List Value := L.flatMap fun x => [.int .i64 x.1, .int .u64 x.2.1, .int .i64 x.2.2]
theorem dlc_app (a b : List (Int × Int × Int)) : dlc (a ++ b) = dlc a ++ dlc b := by simp [dlc]
theorem dpl_none (s : Int) (m : Nat) : dpl s m [] = [] := by cases m <;> rfl
theorem dpl_step {s : Int} {m : Nat} {l : LO} (h : 0 < l.length) : dpl s (m + 1) l = ((l[0]).2.pr, vsum (l.take (bhd s (l[0]).2.pr l)), (bhd s (l[0]).2.pr l : Int)) :: dpl s m (l.drop (bhd s (l[0]).2.pr l)) := by
  cases l with
  | nil => simp at h
  | cons x r => rfl
theorem bhd_pos0 {s : Int} {l : LO} (h : 0 < l.length) : 0 < bhd s (l[0]).2.pr l := by
  cases l with
  | nil => simp at h
  | cons x r =>
    have : btt s x.2.pr x.2.pr = false := by unfold btt; split <;> simp
    simp [bhd, List.takeWhile_cons, this]
theorem Srt.drop {s : Int} {l : LO} (h : Srt s l) (n : Nat) : Srt s (l.drop n) := fun i j hi hj hij => by
  rw [List.length_drop] at hi hj
  rw [List.getElem_drop, List.getElem_drop]
  exact h (n + i) (n + j) (by omega) (by omega) (by omega)
def lenD : Value → Nat
  | .slice _ n _ => n
  | _ => 0
theorem infoD3 : (Try.prog.info? 71).map (fun i => (i.zero, i.size, i.bytes)) = some (some (.agg #[.int .i64 0, .int .u64 0, .int .i64 0]), 3, 24) := by kernel_rfl
theorem info_partsD {e : TypeId} {z : Value} {size bytes : Nat} (h : (Try.prog.info? e).map (fun i => (i.zero, i.size, i.bytes)) = some (some z, size, bytes)) : ∃ i0, Try.prog.info? e = some i0 ∧ i0.zero = some z ∧ i0.size = size ∧ i0.bytes = bytes := by
  cases hi : Try.prog.info? e with
  | none => rw [hi] at h; cases h
  | some i0 =>
    rw [hi] at h
    simp only [Option.map_some, Option.some.injEq, Prod.mk.injEq] at h
    exact ⟨i0, rfl, h.1, h.2.1, h.2.2⟩
theorem own_nilD (w : World) (base : Nat) (e : TypeId) (size : Nat) : w.ownsRow base e size (.slice none 0 0) 0 [] := ⟨by simp, .inl ⟨rfl, rfl⟩⟩
theorem own_formD {base : Nat} {w : World} {e : TypeId} {size n : Nat} {v : Value} {xs : List Value} (h : w.ownsRow base e size v n xs) : ∃ p c, v = .slice p n c := by
  obtain ⟨_, ⟨rfl, rfl⟩ | ⟨g, c, cur, rfl, _⟩⟩ := h
  · exact ⟨none, 0, rfl⟩
  · exact ⟨_, _, rfl⟩
theorem own_onD {base : Nat} {w w' : World} {e : TypeId} {size n : Nat} {v : Value} {xs : List Value} (h : w.ownsRow base e size v n xs) (hb : Below w.heap.size w w') : w'.ownsRow base e size v n xs := by
  obtain ⟨h1, h2 | ⟨g, c, cur, rfl, r1, r2, r⟩⟩ := h
  · exact ⟨h1, .inl h2⟩
  · exact ⟨h1, .inr ⟨g, c, cur, rfl, r1, row_on r2 hb, r⟩⟩
theorem own_geD {base : Nat} {w : World} {e : TypeId} {size n : Nat} {v : Value} {xs : List Value} (h : w.ownsRow base e size v n xs) {g : Nat} (hg : v.ownBlock = some g) : base ≤ g := by
  obtain ⟨h1, ⟨rfl, _⟩ | ⟨g', c, cur, rfl, r1, r2, r⟩⟩ := h
  · cases hg
  · cases hg; exact r1
theorem grown_belowD {base : Nat} {w W U : World} {v : Value} (hb : Below w.heap.size w W) (hg : W.grownBy U v.ownBlock) (h : ∀ g, v.ownBlock = some g → w.heap.size ≤ g) : Below w.heap.size w U :=
  hb.trans ⟨hg.os, hg.tape, hg.output, hg.size, fun g hl => hg.block g (Nat.lt_of_lt_of_le hl hb.size) (fun e => by have := h g e.symm; omega)⟩
theorem depth_any (B k : Nat) (b : Bs) (mo : Int) (w : World) (h : Bm w B b) (hk : k < 2) (hn : (b.sl ((k : Int) + 1)).length ≤ 1048576) (ho : Srt ((k : Int) + 1) (b.sl ((k : Int) + 1))) (hv : ∀ x ∈ b.sl ((k : Int) + 1), 0 ≤ x.2.vi ∧ x.2.vi ≤ 4294967295) :
    Calls Try.prog 12 #[.pointer (some ⟨B, 0, none⟩), .int .i64 ((k : Int) + 1), .int .i64 mo] w fun e w' => ∃ v, e = .returned v ∧ w'.ownsRow w.heap.size 71 3 v (dpl ((k : Int) + 1) mo.toNat (b.sl ((k : Int) + 1))).length (dlc (dpl ((k : Int) + 1) mo.toNat (b.sl ((k : Int) + 1)))) ∧ Below w.heap.size w w' := by
  have cl : w.cell? ⟨B, 2 + k, none⟩ = some (.slice (b.sp ((k : Int) + 1)) (b.sl ((k : Int) + 1)).length (b.sc ((k : Int) + 1))) := by
    rw [row_cell h.row]
    have hh : k = 0 ∨ k = 1 := by omega
    rcases hh with rfl | rfl
    · rfl
    · rfl
  have CI := hid (show ∀ U, Calls Try.prog 34 #[.int .i64 ((k : Int) + 1)] U fun e w' => e = .returned (.bool true) ∧ w' = U from fun U => by
    have h := isSide_any ((k : Int) + 1) U
    have e : isSd ((k : Int) + 1) = true := by
      have hh : k = 0 ∨ k = 1 := by omega
      rcases hh with rfl | rfl <;> rfl
    rw [e] at h
    exact h)
  have CS := hid (fun U => side_any B k U hk)
  have hli := h.sli ((k : Int) + 1)
  obtain ⟨s, hs⟩ : ∃ s, (k : Int) + 1 = s := ⟨_, rfl⟩
  rw [hs] at CI CS cl hli hn ho hv ⊢
  obtain ⟨p, hp⟩ : ∃ p, b.sp s = p := ⟨_, rfl⟩
  obtain ⟨c, hc⟩ : ∃ p, b.sc s = p := ⟨_, rfl⟩
  obtain ⟨l, hl⟩ : ∃ p, b.sl s = p := ⟨_, rfl⟩
  rw [hp, hc, hl] at cl
  rw [hp, hc, hl] at hli
  rw [hl] at hn ho hv ⊢
  clear h hs hp hc hl
  have HLR := hid (show ∃ c', Lr w p c' l ∧ (c' = c ∨ l = []) from by
    cases l with
    | nil => exact ⟨0, Lr.none (by unfold maxLen; omega), .inr rfl⟩
    | cons x r =>
      obtain ⟨g, cur, hp, _, _, h1, h2, _⟩ := hli.some (by simp)
      exact ⟨c, hli.lr ⟨h1, h2⟩, .inl rfl⟩)
  have HO := hid ho
  have HV := hid hv
  obtain ⟨n, hl⟩ : ∃ n, l.length = n := ⟨_, rfl⟩
  rw [hl] at cl hn
  have HN := hid hl
  obtain ⟨i0, hi, hz0, hz1, hz2⟩ := info_partsD infoD3
  have HI := hid (And.intro hi (And.intro hz0 (And.intro hz1 hz2)))
  clear hli ho hv hl hi hz0 hz1 hz2
  go_enter Try.func12, Try.ntmps12
  go_wp2_with (first | (go_at_call 34; with_reducible refine (CI.out _).mono ?_; rintro e w1 ⟨rfl, hw1⟩; rw [hw1]; clear hw1 w1) | (go_at_call 35; with_reducible refine (CS.out _).mono ?_; rintro e w1 ⟨rfl, hw1⟩; rw [hw1]; clear hw1 w1))
  go_loopw [7, 8] (fun ov sv wr => ∃ (L : List (Int × Int × Int)) (d : Nat) (q oq : Option Addr) (cq co : Nat), L.length ≤ d ∧ d ≤ n ∧ ov = .slice oq L.length co ∧ sv = .slice q (n - d) cq ∧ Hid (dpl s mo.toNat l = L ++ dpl s (mo.toNat - L.length) (l.drop d)) ∧ Hid (∃ cq', Lr w q cq' (l.drop d) ∧ (cq' = cq ∨ d = n)) ∧ Hid (wr.ownsRow w.heap.size 71 3 (.slice oq L.length co) L.length (dlc L)) ∧ Hid (Below w.heap.size w wr)) (fun _ sv _ => lenD sv)
  case atStart => exact ⟨[], 0, p, none, c, 0, Nat.le_refl _, Nat.zero_le _, rfl, rfl, rfl, by obtain ⟨c', h1, h2⟩ := HLR.out; exact ⟨c', h1, h2.imp id (fun e => by have := HN.out; rw [e] at this; simpa using this)⟩, own_nilD _ _ _ _, Below.refl _ _⟩
  case round =>
    obtain ⟨L, d, q, oq, cq, co, hLd, hdn, rfl, rfl, HE, HQ, HW, HB⟩ := hrel
    obtain ⟨j, hj⟩ : ∃ j, L.length = j := ⟨_, rfl⟩
    rw [hj] at hLd HW HE ⊢
    have HJ := hid hj
    clear hj
    by_cases hlt : d < n
    · by_cases hm : (j : Int) < mo
      · obtain ⟨l1, hl1⟩ : ∃ x, l.drop d = x := ⟨_, rfl⟩
        have hlen : l1.length = n - d := by rw [← hl1, List.length_drop, HN.out]
        have hpos : 0 < l1.length := by omega
        have HQ1 := hid (show Lr w q cq l1 from by
          obtain ⟨c', h1, h2⟩ := HQ.out
          rw [hl1] at h1
          rcases h2 with rfl | h2
          · exact h1
          · omega)
        have HS1 := hid (show Srt s l1 from by rw [← hl1]; exact HO.out.drop d)
        have HV1 := hid (show ∀ x ∈ l1, 0 ≤ x.2.vi ∧ x.2.vi ≤ 4294967295 from fun x hx => HV.out x (List.mem_of_mem_drop (by rw [hl1]; exact hx)))
        obtain ⟨g, o, rfl, hg, hc, hr⟩ := (HQ1.out.on HB.out).cell 0 hpos
        have c3 := row_cell hr 3
        simp only [orow, List.getElem?_toArray, List.getElem?_cons_succ, List.getElem?_cons_zero] at c3
        obtain ⟨pr, hpr⟩ : ∃ z, (l1[0]).2.pr = z := ⟨_, rfl⟩
        obtain ⟨bl, hbl⟩ : ∃ z, (l1[0]).1 = z := ⟨_, rfl⟩
        rw [hbl] at hc c3
        rw [hpr] at c3
        unfold pv at hc
        simp only [Nat.add_zero] at hc
        obtain ⟨nn, hnn⟩ : ∃ z, bhd s pr l1 = z := ⟨_, rfl⟩
        have nn0 : 0 < nn := by rw [← hnn, ← hpr]; exact bhd_pos0 hpos
        have nn1 : nn ≤ n - d := by rw [← hnn, ← hlen]; exact bhd_le _ _ _
        have CB := hid (behind_r s pr _ cq l1 wr (HQ1.out.on HB.out) (by omega) HS1.out)
        rw [hnn, hlen] at CB
        obtain ⟨sm, hsm⟩ : ∃ z, vsum (l1.take nn) = z := ⟨_, rfl⟩
        have CL := hid (show ∀ U, Below wr.heap.size wr U → Calls Try.prog 37 #[.slice (some ⟨g, o, none⟩) nn cq] U fun e w' => e = .returned (.agg #[.int .i64 pr, .int .u64 sm, .int .i64 nn]) ∧ Below U.heap.size U w' from fun U hU => by
          have hlt' : (l1.take nn).length = nn := by rw [List.length_take]; omega
          have h := level_any (some ⟨g, o, none⟩) cq (l1.take nn) U (((HQ1.out.on HB.out).on hU).take nn (by omega)) (by omega) (by omega) (fun x hx => HV1.out x (List.mem_of_mem_take hx))
          have e : ((l1.take nn)[0]'(by omega)).2.pr = pr := by rw [List.getElem_take]; exact hpr
          rw [e, hlt', hsm] at h
          exact h)
        have HE1 := hid (show dpl s mo.toNat l = (L ++ [(pr, sm, (nn : Int))]) ++ dpl s (mo.toNat - (j + 1)) (l.drop (d + nn)) from by
          rw [HE.out, show mo.toNat - j = (mo.toNat - (j + 1)) + 1 by omega, hl1, dpl_step hpos, hpr, hnn, hsm, ← hl1, List.drop_drop, List.append_assoc]
          rfl)
        have HL1 := hid hlen
        have HD1 := hid hl1
        have hcq : n - d ≤ cq ∧ cq ≤ maxLen := by have := HQ1.out.cap; rw [hlen] at this; exact this
        have HCQ := hid hcq
        have y1 : (nn : Int) ≤ (cq : Int) := by omega
        have y2 : (0 : Int) ≤ (nn : Int) := by omega
        have y3 : (nn : Int) ≤ ((n - d : Nat) : Int) := by omega
        have y4 : (0 : Int) < ((n - d : Nat) : Int) := by omega
        have HJ0 := hid (show j + 1 ≤ 1048576 from by omega)
        clear hr hpr hbl hnn hsm hlen hl1
        have HOWN := hid (show ∀ U : World, Below wr.heap.size wr U → (U.alloc (.cells #[.int .i64 pr, .int .u64 sm, .int .i64 nn] 71)).ownsRow w.heap.size 71 3 (.slice oq j co) j (dlc L) from fun U hU => own_onD HW.out (btr hU (ball _ _)))
        have HNEW := hid (show ∀ (U : World) (i : Nat) (u : Value), (dlc [(pr, sm, (nn : Int))])[i]? = some u → (U.alloc (.cells #[.int .i64 pr, .int .u64 sm, .int .i64 nn] 71)).cell? ((⟨U.heap.size, 0, none⟩ : Addr).add i) = some u from fun U i u hu => by
          rw [Addr.add_lit, Nat.zero_add, row_cell (World.alloc_heap_new _ _)]
          simpa [dlc] using hu)
        have HONE := hid (show ∀ u ∈ dlc [(pr, sm, (nn : Int))], u.oneCell' = true from by simp [dlc, Value.oneCell'])
        have HFIN := hid (show ∀ (U : World) (v' : Value) (w' : World), Below wr.heap.size wr U → w'.ownsRow w.heap.size 71 3 v' (j + 1) (dlc L ++ dlc [(pr, sm, (nn : Int))]) → (U.alloc (.cells #[.int .i64 pr, .int .u64 sm, .int .i64 nn] 71)).grownBy w' (Value.slice oq j co).ownBlock → (∃ p' c', v' = .slice p' (j + 1) c') ∧ w'.ownsRow w.heap.size 71 3 v' (j + 1) (dlc (L ++ [(pr, sm, (nn : Int))])) ∧ Below w.heap.size w w' from fun U v' w' hU h2 h3 =>
          ⟨own_formD h2, by rw [dlc_app]; exact h2, grown_belowD (base := w.heap.size) (btr HB.out (btr hU (ball _ _))) h3 (fun g hg => own_geD HW.out hg)⟩)
        have HBS := hid (show ∀ (U : World), Below wr.heap.size wr U → w.heap.size ≤ (U.alloc (.cells #[.int .i64 pr, .int .u64 sm, .int .i64 nn] 71)).heap.size from fun U hU => (btr HB.out (btr hU (ball _ _))).size)
        have HSZ := hid (show j + 1 ≤ maxLen ∧ (j + 1) * 24 ≤ 140737488355328 from ⟨by have := HJ0.out; unfold maxLen; omega, by have := HJ0.out; omega⟩)
        go_wp2_with (first | (go_at_call 36; with_reducible refine (CB.out).mono ?_; rintro e U1 ⟨rfl, hb⟩; have BU1 := hid hb; clear hb) | (go_at_call 37; with_reducible refine (CL.out _ BU1.out).mono ?_; rintro e U2 ⟨rfl, hb⟩; have BU2 := hid (btr BU1.out hb); clear hb) | (at_builtin; refine wpList_append_own _ (by rfl) (.tmp 36) (.tmp 41) 42 (by rfl) w.heap.size 71 i0 _ 3 24 Try.underlying42 HI.out.1 HI.out.2.1 HI.out.2.2.1 HI.out.2.2.2 rfl (by decide) (.slice oq j co) j (dlc L) (by rfl) (HOWN.out _ BU2.out) ⟨_, 0, none⟩ 1 1 (dlc [(pr, sm, (nn : Int))]) (by rfl) (by rfl) (HNEW.out _) HONE.out HSZ.out.1 HSZ.out.2 (HBS.out _ BU2.out) ?_; intro v' w3 h2 h3 _; obtain ⟨⟨op', co', rfl⟩, h4, h5⟩ := HFIN.out _ _ _ BU2.out h2 h3; have HW3 := hid h4; have HB3 := hid h5; clear h2 h3 h4 h5))
        have HLL := hid (show (L ++ [(pr, sm, (nn : Int))]).length = j + 1 from by rw [List.length_append, HJ.out]; rfl)
        refine ⟨⟨L ++ [(pr, sm, (nn : Int))], d + nn, _, op', cq - nn, co', by rw [HLL.out]; omega, by omega, by rw [HLL.out], by rw [Nat.sub_sub], by rw [HLL.out]; exact HE1.out, ?_, by rw [HLL.out]; exact HW3.out, HB3.out⟩, by simp only [lenD]; omega⟩
        by_cases hcn : cq = nn
        · refine ⟨cq - nn, ?_, .inl rfl⟩
          rw [List.drop_of_length_le (by have := HN.out; have := HCQ.out.1; omega)]
          exact Lr.none (by have := HCQ.out.2; omega)
        · rw [if_neg hcn]
          refine ⟨cq - nn, ?_, .inl rfl⟩
          rw [← List.drop_drop, HD1.out]
          exact HQ1.out.drop nn (by have := HL1.out; omega)
      · have n0 : (0 : Int) < ((n - d : Nat) : Int) := by omega
        have HF := hid (show dpl s mo.toNat l = L from by rw [HE.out, show mo.toNat - j = 0 by omega]; simp [dpl])
        go_wp2
        go_ret
        exact ⟨_, rfl, by rw [HF.out, HJ.out]; exact HW.out, HB.out⟩
    · have hd : d = n := by omega
      subst hd
      have HF := hid (show dpl s mo.toNat l = L from by rw [HE.out, List.drop_of_length_le (by have := HN.out; omega), dpl_none, List.append_nil])
      go_wp2
      go_ret
      exact ⟨_, rfl, by rw [HF.out, HJ.out]; exact HW.out, HB.out⟩
end Go.Proofs.Ytojmcfkbekodpaa
