/-
  RuQ
-/
import Derived.Test.YtojmcfkbekodpaaRuP
import Derived.Test.YtojmcfkbekodpaaGc
import Derived.Deep.Cut
import Derived.Deep.DrawnRows
namespace Go.Proofs.Ytojmcfkbekodpaa
open Go.RowKit Go.Deep Go.Shelf
set_option linter.unusedVariables false
set_option linter.unusedSimpArgs false
theorem fo_side {b : Bs} {id : Int} (h : (fo b id).2.2 = true) : (fo b id).2.1 = 1 ∨ (fo b id).2.1 = 2 := by
  unfold fo at h ⊢
  split
  · exact .inl rfl
  · rename_i h1
    rw [dif_neg h1] at h
    split
    · exact .inr rfl
    · rename_i h2
      rw [dif_neg h2] at h; cases h
theorem chO_side {c : Cm} (h : chO c = 0) : c.sd = 1 ∨ c.sd = 2 := by
  unfold chO at h
  by_cases h1 : isSd c.sd = false
  · rw [if_pos h1] at h; cases h
  · have : isSd c.sd = true := by simpa using h1
    simpa [isSd] using this
theorem refusal_any (B : Nat) (b : Bs) (c : Cm) (w : World) (h : Bm w B b) (hc : CmOk c) (hn : b.l1.length + b.l2.length ≤ 1048576) :
    Calls Try.prog 25 #[.pointer (some ⟨B, 0, none⟩), .agg (cmr c)] w fun e w' => e = .returned (.int .i64 (rfs b c)) ∧ Below w.heap.size w w' := by
  have hF := rf_mk B b c w h hc hn
  obtain ⟨W, hW⟩ : ∃ W, w.alloc (.cells (cmr c) 38) = W := ⟨_, rfl⟩
  rw [hW] at hF
  unfold rfs
  by_cases y90 : chk c = 90
  · rw [if_pos y90]
    rw [y90] at hF
    exact rf90 B b c w W 0 _ _ _ _ _ hW hF
  rw [if_neg y90]
  have y1 : (chk c == 90) = false := by simpa using y90
  by_cases k1 : c.kd = 1
  · rw [if_neg (fun h => h.1 k1)]
    have a1 : (c.kd != 1) = false := by simpa using k1
    have a2 : (c.kd == 1) = true := by simpa using k1
    have a3 : (c.kd == 2) = false := by simp [k1]
    by_cases y0 : chk c = 0
    · rw [if_neg (by rintro (h | h); exact h y0; omega)]
      rw [y0] at hF
      by_cases hi : c.id ≤ b.high
      · rw [if_pos hi]
        exact rf97a B b c w W 0 _ _ _ _ _ a1 a3 hi hW hF
      · rw [if_neg hi]
        have hs : (cmN b c).sd = 1 ∨ (cmN b c).sd = 2 := by
          have e : cmN b c = c := by simp [cmN, k1]
          rw [e]
          refine chO_side ?_
          unfold chk at y0
          rwa [if_pos k1] at y0
        obtain ⟨o, ho⟩ : ∃ o, ord (cmN b c) = o := ⟨_, rfl⟩
        have hoty : (cmN b c).ty = o.ty := by rw [← ho]; rfl
        rw [ho] at hF ⊢
        rw [hoty] at hF ⊢
        obtain ⟨rv, hrv⟩ : ∃ v, rst o.ty = v := ⟨_, rfl⟩
        obtain ⟨mv, hmv⟩ : ∃ v, mts b o (cmN b c).sd = v := ⟨_, rfl⟩
        rw [hrv, hmv] at hF
        rw [hrv, hmv]
        cases rv with
        | true =>
          by_cases fu : b.cap ≤ (b.l1.length : Int) + b.l2.length
          · rw [if_pos ⟨k1, rfl, fu⟩]
            exact rf98 B b c w W 0 _ true _ _ _ a1 a2 a3 hi fu hW hF
          · rw [if_neg (fun h => fu h.2.2)]
            by_cases t5 : o.ty = 5
            · have t5' : (o.ty == 5) = true := by simpa using t5
              cases mv with
              | true =>
                rw [if_pos ⟨t5, rfl⟩]
                exact rfa4 B b c w W 0 _ true true _ _ a1 a2 a3 hi t5' fu hs hW hF
              | false =>
                rw [if_neg (fun h => by cases h.2)]
                exact rfa3 B b c w W 0 _ true false _ _ a1 a2 a3 hi t5' fu hs hW hF
            · have t5' : (o.ty == 5) = false := by simpa using t5
              rw [if_neg (fun h => t5 h.1)]
              exact rfa2 B b c w W 0 _ true _ _ _ a1 a2 a3 hi t5' fu hW hF
        | false =>
          rw [if_neg (fun h => by cases h.2.1)]
          have t5 : ¬ o.ty = 5 := by
            intro e
            rw [e] at hrv
            cases hrv
          have t5' : (o.ty == 5) = false := by simpa using t5
          rw [if_neg (fun h => t5 h.1)]
          exact rfa1 B b c w W 0 _ false _ _ _ a1 a2 a3 hi t5' hW hF
    · rw [if_pos (.inl y0)]
      have y0' : (chk c != 0) = true := by simpa using y0
      exact rfy1 B b c w W (chk c) _ _ _ _ _ y1 a1 y0' hW hF
  · have a1 : (c.kd != 1) = true := by simpa using k1
    have a2 : (c.kd == 1) = false := by simpa using k1
    obtain ⟨hv, hhv⟩ : ∃ v, (fo b c.tg).2.2 = v := ⟨_, rfl⟩
    rw [hhv] at hF
    rw [hhv]
    cases hv with
    | false =>
      rw [if_pos ⟨k1, rfl⟩]
      exact rf91 B b c w W (chk c) false _ _ _ _ y1 a2 a1 hW hF
    | true =>
      rw [if_neg (fun h => by cases h.2)]
      by_cases y0 : chk c = 0
      · by_cases k2 : c.kd = 2
        · rw [if_pos (.inr k2)]
          rw [y0] at hF ⊢
          have a3 : (c.kd == 2) = true := by simpa using k2
          exact rfc B b c w W 0 true _ _ _ _ a1 a3 hW hF
        · rw [if_neg (by rintro (h | h); exact h y0; exact k2 h)]
          rw [y0] at hF
          have a3 : (c.kd == 2) = false := by simpa using k2
          have k3 : c.kd = 3 := by
            by_cases k3 : c.kd = 3
            · exact k3
            · exfalso
              unfold chk at y0
              rw [if_neg k1, if_neg k3, if_neg k2] at y0
              cases y0
          by_cases hi : c.id ≤ b.high
          · rw [if_pos hi]
            exact rf97b B b c w W 0 true _ _ _ _ a1 a3 hi hW hF
          · rw [if_neg hi, if_neg (fun h => k1 h.1)]
            have hs : (cmN b c).sd = 1 ∨ (cmN b c).sd = 2 := by
              have e : (cmN b c).sd = (fo b c.tg).2.1 := by simp [cmN, k3]
              rw [e]
              exact fo_side hhv
            obtain ⟨o, ho⟩ : ∃ o, ord (cmN b c) = o := ⟨_, rfl⟩
            have hoty : (cmN b c).ty = o.ty := by rw [← ho]; rfl
            rw [ho] at hF ⊢
            rw [hoty]
            obtain ⟨mv, hmv⟩ : ∃ v, mts b o (cmN b c).sd = v := ⟨_, rfl⟩
            rw [hmv] at hF
            rw [hmv]
            by_cases t5 : o.ty = 5
            · have t5' : (o.ty == 5) = true := by simpa using t5
              cases mv with
              | true =>
                rw [if_pos ⟨t5, rfl⟩]
                exact rfb3 B b c w W 0 true _ true _ _ a1 a2 a3 hi t5' hs hW hF
              | false =>
                rw [if_neg (fun h => by cases h.2)]
                exact rfb2 B b c w W 0 true _ false _ _ a1 a2 a3 hi t5' hs hW hF
            · have t5' : (o.ty == 5) = false := by simpa using t5
              rw [if_neg (fun h => t5 h.1)]
              exact rfb1 B b c w W 0 true _ _ _ _ a1 a2 a3 hi t5' hW hF
      · rw [if_pos (.inl y0)]
        have y0' : (chk c != 0) = true := by simpa using y0
        exact rfy2 B b c w W (chk c) true _ _ _ _ y1 a1 y0' hW hF
end Go.Proofs.Ytojmcfkbekodpaa
namespace Go.Proofs.Ytojmcfkbekodpaa
open Go.RowKit Go.Deep Go.Shelf
set_option linter.unusedVariables false
set_option linter.unusedSimpArgs false
set_option maxHeartbeats 2000000
set_option maxRecDepth 100000
theorem btt_irr (s p : Int) : btt s p p = false := by unfold btt; split <;> simp
theorem bhd_pos {s : Int} {x : Nat × Or} {r : LO} : 0 < bhd s x.2.pr (x :: r) := by
  unfold bhd
  simp [List.takeWhile_cons, btt_irr]
/-- the first one behind all others at its price. -/
def agn (s : Int) : LO → LO
  | [] => []
  | x :: r => ins (bhd s x.2.pr (x :: r) - 1) x r
theorem agn_len (s : Int) (x : Nat × Or) (r : LO) : (agn s (x :: r)).length = (x :: r).length := by
  have := bhd_le s x.2.pr (x :: r)
  unfold agn
  rw [ins_len (by simp at this; omega)]; rfl
theorem rotL {A : List Value} {x : Value} {R : List Value} {k n : Nat} (hn : R.length + 1 = n) (hk : k < n) (hA : A.take n = x :: R) :
    ((R.take k ++ A.drop (0 + (R.take k).length)).set k x).take n = R.take k ++ x :: R.drop k := by
  have e0 : (R.take k).length = k := by rw [List.length_take]; omega
  have hl : n ≤ A.length := by
    have := congrArg List.length hA
    rw [List.length_take] at this
    simp at this
    omega
  rw [e0, Nat.zero_add, List.set_append_right _ _ (by omega), e0, Nat.sub_self]
  have e1 : (A.drop k).take (n - k) = (x :: R).drop k := by rw [← hA, List.drop_take]
  have e2 : ((A.drop k).set 0 x).take (n - k) = x :: R.drop k := by
    rw [List.take_set, e1]
    cases k with
    | zero => simp
    | succ k =>
      simp only [List.drop_succ_cons]
      rw [List.drop_eq_getElem_cons (by omega), List.set_cons_zero]
  rw [List.take_append, e0, e2, List.take_of_length_le (by omega)]
theorem again_any (p : Option Addr) (c : Nat) (s : Int) (x : Nat × Or) (r : LO) (w : World) (h : Li w p c (x :: r)) (hn : (x :: r).length ≤ 1048576) (ho : Srt s (x :: r)) :
    Calls Try.prog 92 #[.slice p (x :: r).length c, .int .i64 s] w fun e w' => e = .returned (.tuple #[]) ∧ Li w' p c (agn s (x :: r)) ∧ Kp (OfP p) w w' := by
  obtain ⟨g, cur, rfl, hr, hcs, hlc, hcm, hcell⟩ := h.some (by simp)
  unfold maxLen at hcm
  have C := hid (behind_any s x.2.pr (some ⟨g, 0, none⟩) c (x :: r) w h hn ho)
  have hb1 : 0 < bhd s x.2.pr (x :: r) := bhd_pos
  have hb2 := bhd_le s x.2.pr (x :: r)
  obtain ⟨k, hk⟩ : ∃ k, bhd s x.2.pr (x :: r) = k + 1 := ⟨bhd s x.2.pr (x :: r) - 1, by omega⟩
  rw [hk] at C hb1 hb2
  have ha : agn s (x :: r) = ins k x r := by show ins (bhd s x.2.pr (x :: r) - 1) x r = _; rw [hk]; rfl
  have c0 := hcell 0 (by simp)
  simp only [List.getElem_cons_zero] at c0
  have cg : w.cell? ⟨g, 0, none⟩ = some (.pointer (some ⟨x.1, 0, none⟩)) := by rw [row_cell hr]; exact c0
  have hx := h.at' x (by simp)
  have cx := row_cell hx 3
  simp only [orow, List.getElem?_toArray, List.getElem?_cons_succ, List.getElem?_cons_zero] at cx
  obtain ⟨n, hnn⟩ : ∃ n, (x :: r).length = n := ⟨_, rfl⟩
  have hrn : r.length + 1 = n := by rw [← hnn]; rfl
  rw [hnn] at C hn hlc hb2 ⊢
  have hpl : cur.toList.take n = pv x.1 :: pvs r := by
    have := take_row (by rw [hcs, hnn]; exact hlc) hcell
    rw [hnn] at this
    exact this
  obtain ⟨R1, hR1⟩ : ∃ R1, (cur.toList.take 0 ++ (pvs r).take k ++ cur.toList.drop (0 + ((pvs r).take k).length)).toArray = R1 := ⟨_, rfl⟩
  have hlk : ((pvs r).take k).length = k := by rw [List.length_take, pvs_len]; omega
  have hs1 : R1.size = c := by rw [← hR1]; simp [pvs_len]; omega
  have HCP := hid (fun (U : World) (hU : U.heap[g]? = some (.cells cur 100 (0, 0))) (a : Addr) (ha : 0 < k → a = ⟨g, 1, none⟩) (ty : TypeId) (dc sc : Nat) => (show (Builtin.copy_ #[96, 96] ty #[.slice (some ⟨g, 0, none⟩) k dc, .slice (some a) (n - 1) sc]).run Try.prog U = .ok (goInt ((pvs r).take k).length) (U.setRow g R1) from by
    rw [← hR1]
    refine run_copy_row Try.prog U 96 96 ty 100 g 0 k dc a (n - 1) sc cur 100 ((pvs r).take k) Try.underlying96 size92 hU (by rw [hlk]; simp only [Nat.min_def]; split <;> omega) (fun j v hj => ?_) (by rw [hlk]; omega) (fun v hv => pvs_one r v (List.mem_of_mem_take hv))
    have hj2 : j < k := by have := (List.getElem?_eq_some_iff.1 hj).1; rwa [hlk] at this
    rw [ha (by omega), Addr.add_lit, row_cell hU]
    have h1 := hcell (1 + j) (by rw [hnn]; omega)
    rw [h1]
    rw [List.getElem?_take, if_pos hj2] at hj
    simp only [pvs, List.getElem?_map] at hj
    rw [List.getElem?_eq_getElem (by omega)] at hj
    rw [← hj]
    have : (x :: r)[1 + j]'(by rw [hnn]; omega) = r[j] := by
      have : 1 + j = j + 1 := by omega
      simp [this]
    rw [this]; rfl))
  have HFIN := hid (fun (U : World) (hb : Below w.heap.size w U) => (show (U.setRow g R1).heap[g]? = some (.cells R1 100 (0, 0)) ∧ Li ((U.setRow g R1).setCell ⟨g, k, none⟩ (.pointer (some ⟨x.1, 0, none⟩))) (some ⟨g, 0, none⟩) c (agn s (x :: r)) ∧ Kp (OfP (some ⟨g, 0, none⟩)) w ((U.setRow g R1).setCell ⟨g, k, none⟩ (.pointer (some ⟨x.1, 0, none⟩))) from by
    have h1 := setRow_heap U g cur R1 100 (0, 0) (row_on hr hb)
    have hk1 : Kp (fun b => b = g) w ((U.setRow g R1).setCell ⟨g, k, none⟩ (.pointer (some ⟨x.1, 0, none⟩))) := ((Kp.of (fun b => b = g) hb).trans (setRow_kp U g R1) (fun _ _ h => h)).trans (Kp.set _ g k _) (fun _ _ h => h)
    refine ⟨h1, ⟨?_, fun y hy => ?_⟩, hk1.mono (fun b _ e => by rw [e]; exact OfP.mk g)⟩
    · have hl2 : (agn s (x :: r)).length = n := by rw [agn_len, hnn]
      rw [hl2]
      refine own_mk (set_row _ h1) hlc (by unfold maxLen; exact hcm) (by simp; exact hs1) ?_ (by rw [pvs_len, hl2])
      rw [ha, pvs_ins, Array.toList_setIfInBounds, ← hR1]
      have := rotL (A := cur.toList) (x := pv x.1) (R := pvs r) (k := k) (n := n) (by rw [pvs_len]; exact hrn) (by omega) hpl
      simpa [pv] using this
    · rw [ha] at hy
      have hm : y ∈ x :: r := by
        rcases ins_mem hy with rfl | h'
        · simp
        · simp [h']
      have hy' := h.at' y hm
      exact hk1.row hy' (row_ne hy' hr (by decide))))
  have z1 : (k : Int) + 1 - 1 = (k : Int) := by omega
  have k0 : (0 : Int) ≤ (k : Int) := by omega
  have k1 : (k : Int) ≤ (n : Int) := by omega
  have k2 : (k : Int) < (n : Int) := by omega
  have k3 : (k : Int) ≤ (c : Int) := by omega
  have n1 : (1 : Int) ≤ (n : Int) := by omega
  have n0 : 0 < n := by omega
  have HL := hid h
  have HR := hid hr
  have F1 := hid (fun (U : World) (hb : Below w.heap.size w U) (j : Nat) => row_frz (HFIN.out U hb).1 j)
  have C1 := hid (fun (U : World) (hb : Below w.heap.size w U) => (show ∃ y, (U.setRow g R1).cell? ⟨g, k, none⟩ = some y from ⟨_, by rw [row_cell (HFIN.out U hb).1, Array.getElem?_eq_getElem (by omega)]⟩))
  have HCG := hid (fun (U : World) (hb : Below w.heap.size w U) => And.intro (row_on hr hb) trivial)
  have hkn : ((k + 1 : Nat) : Int) = (k : Int) + 1 := by omega
  rw [hkn] at C
  clear hkn
  by_cases hc1 : c = 1
  · subst hc1
    obtain rfl : k = 0 := by omega
    obtain rfl : n = 1 := by omega
    clear h hr hx hcell hk ha hnn hrn hpl hR1 hlk hb1 hb2 c0 hcs hlc hcm hn ho
    go_enter Try.func92, Try.ntmps92
    go_upto_region 2 with (go_at_call 36; with_reducible refine (C.out).mono ?_; rintro e w1 ⟨rfl, hb⟩; have HB := hid hb; clear hb)
    go_region_law (refine step_copy_known (by rfl) (.tmp 19) (.tmp 21) 96 96 (by rfl) (.slice (some ⟨g, 0, none⟩) 0 1) (.slice (some ⟨g, 0, none⟩) 0 0) (by simp [Act.eval, Act.put]) (by simp [Act.eval, Act.put]) (HCP.out w1.drew (row_on HR.out (btr HB.out (bdrew1 _))) ⟨g, 0, none⟩ (fun h => absurd h (by omega)) _ _ _) ?_)
    have HF := hid (HFIN.out w1.drew (btr HB.out (bdrew1 _)))
    obtain ⟨y, cy⟩ := C1.out w1.drew (btr HB.out (bdrew1 _))
    have fy := F1.out w1.drew (btr HB.out (bdrew1 _)) 0
    go_wp2
    go_end0
    exact ⟨rfl, HF.out.2⟩
  · have b1 : ¬ (c = 1) := hc1
    clear h hr hx hcell hk ha hnn hrn hpl hR1 hlk hb1 hb2 c0 hcs hn ho hc1
    go_enter Try.func92, Try.ntmps92
    go_upto_region 2 with (go_at_call 36; with_reducible refine (C.out).mono ?_; rintro e w1 ⟨rfl, hb⟩; have HB := hid hb; clear hb)
    go_region_law (refine step_copy_known (by rfl) (.tmp 19) (.tmp 21) 96 96 (by rfl) (.slice (some ⟨g, 0, none⟩) k c) (.slice (some ⟨g, 1, none⟩) (n - 1) (c - 1)) (by simp [Act.eval, Act.put]) (by simp [Act.eval, Act.put]) (HCP.out w1.drew (row_on HR.out (btr HB.out (bdrew1 _))) ⟨g, 1, none⟩ (fun _ => rfl) _ _ _) ?_)
    have HF := hid (HFIN.out w1.drew (btr HB.out (bdrew1 _)))
    obtain ⟨y, cy⟩ := C1.out w1.drew (btr HB.out (bdrew1 _))
    have fy := F1.out w1.drew (btr HB.out (bdrew1 _)) k
    go_wp2
    go_end0
    exact ⟨rfl, HF.out.2⟩
end Go.Proofs.Ytojmcfkbekodpaa
namespace Go.Proofs.Ytojmcfkbekodpaa
open Go.RowKit Go.Deep Go.Shelf
set_option linter.unusedVariables false
set_option linter.unusedSimpArgs false
set_option maxHeartbeats 4000000
set_option maxRecDepth 100000
/-- the blocks that an order that comes may touch. -/
def ffp (b : Bs) (T B O : Nat) (ve : Value) (s : Int) (j : Nat) : Prop := tfp T B ve j ∨ OfP (b.sp (oth s)) j ∨ j ∈ (b.sl (oth s)).map (·.1) ∨ j = O
structure Cg (w0 : World) (F : Nat → Prop) (T B O : Nat) (b : Bs) (ve : Value) (es : List Ev) (o : Or) (s q : Int) (w : World) : Prop where
  tn : Tn w T B b ve es
  ow : w.heap[O]? = some (.cells (crow o s q) 88 (0, 0))
  kp : Kp F w0 w
  fr : ∀ j, ffp b T B O ve s j → F j ∨ w0.heap.size ≤ j
theorem Cg.on {w0 : World} {F : Nat → Prop} {T B O : Nat} {b : Bs} {ve : Value} {es : List Ev} {o : Or} {s q : Int} {w w' : World} (h : Cg w0 F T B O b ve es o s q w) (hb : Below w.heap.size w w') : Cg w0 F T B O b ve es o s q w' :=
  ⟨h.tn.on hb, row_on h.ow hb, h.kp.trans (Kp.of (fun _ => False) hb) (fun _ _ h => h.elim), h.fr⟩
theorem Bs.put_sl (b : Bs) (s : Int) (hs : s = 1 ∨ s = 2) (p : Option Addr) (c : Nat) (l : LO) : (b.put s p c l).sl s = l ∧ (b.put s p c l).sp s = p ∧ (b.put s p c l).sc s = c := by
  rcases hs with rfl | rfl <;> exact ⟨rfl, rfl, rfl⟩
theorem Bs.put_so (b : Bs) (s : Int) (hs : s = 1 ∨ s = 2) (p : Option Addr) (c : Nat) (l : LO) : (b.put s p c l).sl (oth s) = b.sl (oth s) ∧ (b.put s p c l).sp (oth s) = b.sp (oth s) ∧ (b.put s p c l).sc (oth s) = b.sc (oth s) := by
  rcases hs with rfl | rfl <;> exact ⟨rfl, rfl, rfl⟩
theorem oth_side {s : Int} (hs : s = 1 ∨ s = 2) : oth s = 1 ∨ oth s = 2 := by rcases hs with rfl | rfl <;> simp [oth]
theorem told_sl (b : Bs) (s : Int) : b.told.sl s = b.sl s ∧ b.told.sp s = b.sp s ∧ b.told.sc s = b.sc s := ⟨rfl, rfl, rfl⟩
/-- the first order of a side is changed in its place. -/
theorem Bm.upd {w w' : World} {B : Nat} {b : Bs} {s : Int} (hs : s = 1 ∨ s = 2) {f : Nat} {x x' : Or} {r : LO} (h : Bm w B b) (hl : b.sl s = (f, x) :: r) (hk : Kp (fun j => j = f) w w') (hx : w'.heap[f]? = some (.cells (orow x') 86 (0, 0))) : Bm w' B (b.put s (b.sp s) (b.sc s) ((f, x') :: r)) := by
  have hf : w.heap[f]? = some (.cells (orow x) 86 (0, 0)) := (h.sli s).at' (f, x) (by rw [hl]; simp)
  have nd := h.snd s
  rw [hl] at nd
  have nfr : ∀ y ∈ r, y.1 ≠ f := fun y hy e => by
    simp only [List.map_cons, List.nodup_cons] at nd
    exact nd.1 (List.mem_map.2 ⟨y, hy, e⟩)
  have hlist : Li w' (b.sp s) (b.sc s) ((f, x') :: r) := by
    have h1 := (h.sli s)
    rw [hl] at h1
    refine ⟨own_same h1.own (fun g hg => ?_), fun y hy => ?_⟩
    · obtain ⟨c, e⟩ := own_ty h1.own hg
      exact hk.obj g (row_lt e) (row_ne e hf (by decide))
    · rcases List.mem_cons.1 hy with rfl | hy
      · exact hx
      · exact hk.row (h1.at' y (by simp [hy])) (nfr y hy)
  have hrow : (b.put s (b.sp s) (b.sc s) ((f, x') :: r)).row = b.row := by
    rcases hs with rfl | rfl
    · have : b.l1 = (f, x) :: r := hl
      simp [Bs.put, Bs.row, Bs.sp, Bs.sc, this]
    · have : b.l2 = (f, x) :: r := hl
      simp [Bs.put, Bs.row, Bs.sp, Bs.sc, this]
  have ndA := sublist_nodup_left h.nd
  rcases hs with rfl | rfl
  · have e1 : b.l1 = (f, x) :: r := hl
    refine ⟨by rw [hrow]; exact hk.row h.row (row_ne h.row hf (by decide)), hlist, h.li2.kept hk (fun g hg => ?_) (fun y hy => ?_), ?_, h.ap⟩
    · obtain ⟨c, e⟩ := h.li2.ty hg; exact row_ne e hf (by decide)
    · exact fun e => ndA.2.2 (f, x) (by rw [e1]; simp) y hy e.symm
    · have := h.nd
      rw [e1] at this
      exact this
  · have e1 : b.l2 = (f, x) :: r := hl
    refine ⟨by rw [hrow]; exact hk.row h.row (row_ne h.row hf (by decide)), h.li1.kept hk (fun g hg => ?_) (fun y hy => ?_), hlist, ?_, h.ap⟩
    · obtain ⟨c, e⟩ := h.li1.ty hg; exact row_ne e hf (by decide)
    · exact fun e => ndA.2.2 y hy (f, x) (by rw [e1]; simp) e
    · have := h.nd
      rw [e1] at this
      show ((b.l1 ++ (f, x') :: r).map (·.1)).Nodup
      simpa using this
/-- a turn whose book's first order is changed. -/
theorem Tn.upd {w w' : World} {T B : Nat} {b : Bs} {ve : Value} {es : List Ev} {s : Int} (hs : s = 1 ∨ s = 2) {f : Nat} {x x' : Or} {r : LO} (h : Tn w T B b ve es) (hl : b.sl s = (f, x) :: r) (hk : Kp (fun j => j = f) w w') (hx : w'.heap[f]? = some (.cells (orow x') 86 (0, 0))) : Tn w' T B (b.put s (b.sp s) (b.sc s) ((f, x') :: r)) ve es := by
  have hf : w.heap[f]? = some (.cells (orow x) 86 (0, 0)) := (h.bm.sli s).at' (f, x) (by rw [hl]; simp)
  refine ⟨h.bm.upd hs hl hk hx, hk.row h.row (row_ne h.row hf (by decide)), own_same h.ev (fun j hj => ?_)⟩
  obtain ⟨c, e⟩ := own_ty h.ev hj
  exact hk.obj j (row_lt e) (row_ne e hf (by decide))
def evT (o : Or) (s : Int) (x : Or) (q : Int) : Ev := ⟨0, 3, o.id, x.id, 0, 0, s, 0, x.pr, q, 0, 0, 0⟩
def evF (x : Or) : Ev := ⟨0, 5, x.id, 0, 0, 0, 0, 0, x.pr, x.vi, 0, 0, 0⟩
def Or.less (x : Or) (q : Int) : Or := { x with vi := x.vi - q }
def Or.shn (x : Or) : Or := { x with vi := (shw x.pk x.hi).1, hi := (shw x.pk x.hi).2 }
/-- a list behind a trade with its first order. -/
def trl (S : Int) (f : Nat) (x : Or) (r : LO) (q : Int) : LO := if 0 < x.vi - q then (f, x.less q) :: r else if x.hi = 0 then r else agn S ((f, (x.less q).shn) :: r)
/-- what is told of it. -/
def trb (b : Bs) (x : Or) (q : Int) : Bs := if 0 < x.vi - q then b.told else if x.hi = 0 then b.told else b.told.told
def tre (n : Int) (o : Or) (s : Int) (x : Or) (q : Int) : List Ev := if 0 < x.vi - q then [(evT o s x q).num (nx n)] else if x.hi = 0 then [(evT o s x q).num (nx n)] else [(evT o s x q).num (nx n), (evF (x.less q).shn).num (nx (nx n))]
end Go.Proofs.Ytojmcfkbekodpaa
