/-
  The texts of this claim, part 9.
-/
import Derived.Test.YtjgjoohdocjpkaaGreatDoorZh
namespace Go.Proofs.YtjgjoohdocjpkaaGreatDoor
open Go.RowKit Go.Deep Go.Lib Go.Shelf Go.Sort
set_option linter.unusedVariables false
def PartP (F : Nat) (R : List UInt8 × List (Int × List UInt8) × Nat × Int) (w : World) (e : Ending) (w' : World) : Prop :=
  Below w.heap.size w w' ∧ ((R.2.2.2 ≠ 0 ∧ e = .returned (.agg (ansB ((F + R.2.2.1 : Nat)) R.2.2.2))) ∨ (R.2.2.2 = 0 ∧ ∃ v, e = .returned (.agg (ansV R.1 v 0 0 false 0)) ∧ OwnT w.heap.size w w' v R.2.1))
structure PaR (w : World) (F : Nat) (body l : List UInt8) (b o g : Nat) (kind : List UInt8) (tags : List (Int × List UInt8)) (v : Value) (wr : World) : Prop where
  z : wr.heap[w.heap.size]? = some (.cells ansZ 81 (0, 0))
  a : wr.heap[w.heap.size + 1]? = some (.cells (ansV kind v 0 0 false 0) 81 (0, 0))
  ow : OwnT (w.heap.size + 2) wr wr v tags
  s : Sb wr (some ⟨b, o, none⟩) l
  bel : Below w.heap.size w wr
  eq : bodyR body body 0 0 [] [] = bodyR body (body.drop g) g g kind tags
  z0 : g = 0 → kind = [] ∧ tags = []
  len : tags.length ≤ 64
theorem seg_at (l : List UInt8) (F T P : Nat) (seg rest : List UInt8) (hF : F ≤ P) (hT : T ≤ l.length) (hR : ((l.drop F).take (T - F)).drop (P - F) = seg ++ 1 :: rest) : P + seg.length < T ∧ l.drop P = seg ++ 1 :: (rest ++ l.drop T) := by
  have hlen := congrArg List.length hR
  simp at hlen
  have h1 : P + seg.length < T := by omega
  refine ⟨h1, ?_⟩
  have e1 : l.drop P = ((l.drop F).drop (P - F)) := by rw [List.drop_drop]; congr 1; omega
  have e2 : (l.drop F).drop (P - F) = (((l.drop F).take (T - F)).drop (P - F)) ++ l.drop T := by
    conv => lhs; rw [← List.take_append_drop (T - F) (l.drop F)]
    rw [List.drop_append_of_le_length (by simp; omega), List.drop_drop]
    congr 2
    omega
  rw [e1, e2, hR]
  simp
theorem at_seg {l : List UInt8} {P : Nat} {s : List UInt8} (h : l.drop P = s) (k : Nat) (hk : k < s.length) (hl : P + k < l.length) : l[P + k] = s[k] := by
  subst h
  simp
theorem OwnT.low {B B' : Nat} {W0 W1 w : World} {v : Value} {l : List (Int × List UInt8)} (h : OwnT B W0 w v l) (hB : B' ≤ B) (hb : Below B' W1 w) : OwnT B' W1 w v l := by
  obtain ⟨⟨h1, h2⟩, h3, h4⟩ := h
  refine ⟨⟨h1, ?_⟩, hb, by omega⟩
  rcases h2 with h2 | ⟨g, cap, cur, e, hg0, hg, r⟩
  · exact Or.inl h2
  · exact Or.inr ⟨g, cap, cur, e, by omega, hg, r⟩
theorem OwnT.same {B B' : Nat} {W0 W1 w w' : World} {v : Value} {l : List (Int × List UInt8)} (h : OwnT B W0 w v l) (hB : B' ≤ B) (ho : ∀ k, B ≤ k → w'.heap[k]? = w.heap[k]?) (hs : w'.heap.size = w.heap.size) (hb : Below B' W1 w') : OwnT B' W1 w' v l := by
  obtain ⟨⟨h1, h2⟩, h3, h4⟩ := h
  refine ⟨⟨h1, ?_⟩, hb, by omega⟩
  rcases h2 with h2 | ⟨g, cap, cur, e, hg0, hg, r⟩
  · exact Or.inl h2
  · exact Or.inr ⟨g, cap, cur, e, by omega, by rw [ho g hg0]; exact hg, r⟩
/-- one field is taken: a cell of the answer is written. -/
theorem PaR.put {w : World} {F : Nat} {body l : List UInt8} {b o g g' : Nat} {kind kind' : List UInt8} {tags tags' : List (Int × List UInt8)} {v v' : Value} {wr w3 : World} (h : PaR w F body l b o g kind tags v wr) (hS : Sb w (some ⟨b, o, none⟩) l)
    (hb : Below (w.heap.size + 2) wr w3) (hO : OwnT (w.heap.size + 2) wr w3 v' tags') (j : Nat) (u : Value) (hu : (ansV kind v 0 0 false 0).setIfInBounds j u = ansV kind' v' 0 0 false 0)
    (heq : bodyR body (body.drop g) g g kind tags = bodyR body (body.drop g') g' g' kind' tags') (hz : g' ≠ 0) (hl : tags'.length ≤ 64) :
    PaR w F body l b o g' kind' tags' v' (w3.setCell ⟨w.heap.size + 1, j, none⟩ u) := by
  have ha : w3.heap[w.heap.size + 1]? = some (.cells (ansV kind v 0 0 false 0) 81 (0, 0)) := by rw [hb.block _ (by omega)]; exact h.a
  have hz3 : w3.heap[w.heap.size]? = some (.cells ansZ 81 (0, 0)) := by rw [hb.block _ (by omega)]; exact h.z
  have hbel : Below w.heap.size w (w3.setCell ⟨w.heap.size + 1, j, none⟩ u) := (h.bel.trans (hb.mono (by omega))).setCell (by show w.heap.size ≤ w.heap.size + 1; omega) _
  refine ⟨?_, ?_, ?_, hS.on hbel, hbel, h.eq.trans heq, fun e => absurd e hz, hl⟩
  · rw [heap_setCell_other _ _ _ _ (by show w.heap.size ≠ w.heap.size + 1; omega)]; exact hz3
  · rw [heap_setCell_same w3 _ j _ 81 _ ha, hu]
  · exact hO.same (Nat.le_refl _) (fun k hk => heap_setCell_other _ _ _ _ (by show k ≠ w.heap.size + 1; omega)) (by simp) (Below.refl _ _)
set_option maxHeartbeats 4000000 in
set_option maxRecDepth 100000 in
theorem parts_any (l : List UInt8) (b o cap F T : Nat) (w : World) (hFT : F < T) (hT : T ≤ l.length) (hT2 : T ≤ 5000) (hll : l.length < 4611686018427387904) (hcap : l.length ≤ cap) (hcm : cap < 9223372036854775808) (hlast : ((l.drop F).take (T - F)).getLast? = some 1) (hS : Sb w (some ⟨b, o, none⟩) l) :
    Calls Tryz.prog 63 #[.slice (some ⟨b, o, none⟩) l.length cap, .int .i64 F, .int .i64 T] w fun e w' => PartP F (bodyR ((l.drop F).take (T - F)) ((l.drop F).take (T - F)) 0 0 [] []) w e w' := by
  have BA := hid bad_any
  have hbl : ((l.drop F).take (T - F)).length = T - F := by simp; omega
  have HBD := hid (show ∀ P, F ≤ P → ∀ seg rest, ((l.drop F).take (T - F)).drop (P - F) = seg ++ 1 :: rest → P + seg.length < T ∧ l.drop P = seg ++ 1 :: (rest ++ l.drop T) from fun P hP seg rest h => seg_at l F T P seg rest hP hT h)
  obtain ⟨body, hbody⟩ : ∃ x, (l.drop F).take (T - F) = x := ⟨_, rfl⟩
  rw [hbody] at hbl hlast HBD ⊢
  clear hbody
  have HL := hid hlast
  have hsz : ((w.alloc (.cells ansZ 81)).alloc (.cells ansZ 81)).heap.size = w.heap.size + 2 := by simp
  have PK := hid (show PaR w F body l b o 0 [] [] (.slice none 0 0) ((w.alloc (.cells ansZ 81)).alloc (.cells ansZ 81)) from ⟨row_on (heap_alloc_new _ _) (ball _ _), by
    have := heap_alloc_new (w.alloc (.cells ansZ 81)) (.cells ansZ 81)
    rw [show (w.alloc (.cells ansZ 81)).heap.size = w.heap.size + 1 by simp] at this
    exact this, ⟨World.ownsRow_nil _ _ _ _, Below.refl _ _, by rw [hsz]; exact Nat.le_refl _⟩, (hS.on (ball _ _)).on (ball _ _), btr' (ball _ _) (ball _ _), rfl, fun _ => ⟨rfl, rfl⟩, by simp⟩)
  have HS := hid hS
  clear hS hlast hsz
  go_enter Tryz.func63, Tryz.ntmps63
  go_wp2
  go_loopw [8] (fun iv wr => ∃ P : Nat, F ≤ P ∧ P ≤ T ∧ iv = .int .i64 P ∧ ∃ kind tags v, Hid (PaR w F body l b o (P - F) kind tags v wr)) (fun iv _ => T - (RowKit.intOf iv).toNat)
  case atStart => exact ⟨F, Nat.le_refl _, by omega, rfl, [], [], _, by rw [Nat.sub_self]; exact PK⟩
  case round =>
    obtain ⟨P, hFP, hPT, rfl, kind, tags, v, PJ⟩ := hrel
    clear PK
    by_cases hlt : P < T
    · have hlt' : (P : Int) < (T : Int) := by omega
      obtain ⟨seg, rest, hR, h1⟩ := seg_of body (P - F) (by omega) HL.out
      obtain ⟨hn, hdr⟩ := HBD.out P hFP seg rest hR
      have HFL := hid (bodyR_field body seg rest (P - F) kind tags hR h1)
      have HSEG := hid (show ∀ k (hk : k < seg.length), l[P + k]'(by omega) = seg[k] from fun k hk => by
        rw [at_seg hdr k (by simp; omega) (by omega)]
        rw [List.getElem_append_left hk])
      have HONE := hid (show l[P + seg.length]'(by omega) = 1 from by
        rw [at_seg hdr seg.length (by simp) (by omega)]
        simp)
      have HBADR := hid (show ∀ why : Int, why ≠ 0 → bodyR body (body.drop (P - F)) (P - F) (P - F) kind tags = ([], [], P - F, why) → ∀ w', Below w.heap.size w w' → PartP F (bodyR body body 0 0 [] []) w (.returned (.agg (ansB P why))) w' from fun why hw he w' hb => by
        have e1 : bodyR body body 0 0 [] [] = ([], [], P - F, why) := PJ.out.eq.trans he
        rw [e1]
        refine ⟨hb, Or.inl ⟨hw, ?_⟩⟩
        simp only
        rw [show F + (P - F) = P by omega])
      obtain ⟨n, hnn⟩ : ∃ n, seg.length = n := ⟨_, rfl⟩
      rw [hnn] at hn
      have HNN := hid hnn
      have H1 := hid h1
      have HDR := hid hdr
      clear hnn h1 hdr
      go_wp2
      go_loopw [9] (fun ev w2 => ∃ E : Nat, P ≤ E ∧ E ≤ P + n ∧ ev = .int .i64 E ∧ w2 = wr) (fun ev _ => P + n - (RowKit.intOf ev).toNat)
      case atStart => exact ⟨P, Nat.le_refl _, by omega, rfl, rfl⟩
      case round =>
        obtain ⟨E, hPE, hEn, rfl, rfl⟩ := hrel
        have h0 := PJ.out.s.at E (by omega)
        have i0 : (0 : Int) ≤ (E : Int) := by omega
        have i1 : (E : Int) < (l.length : Int) := by omega
        by_cases hE : E < P + n
        · obtain ⟨c, hc⟩ : ∃ c, l[E]'(by omega) = c := ⟨_, rfl⟩
          rw [hc] at h0
          have hne : ((c.toNat : Int) != 1) = true := by
            have h2 := HSEG.out (E - P) (by rw [HNN.out]; omega)
            have h3 : l[P + (E - P)]'(by omega) = c := by rw [← hc]; congr 1; omega
            rw [h3] at h2
            simp
            intro e
            have e2 : c = 1 := UInt8.toNat_inj.1 (by simp; omega)
            exact H1.out (by rw [← e2, h2]; exact List.getElem_mem _)
          clear hc
          go_wp2
          go_roundw
          case rel => exact ⟨E + 1, by omega, by omega, by go_num, trivial⟩
          case measure => simp [RowKit.intOf]; omega
        · have hEe : E = P + n := by omega
          have hc : l[E]'(by omega) = 1 := by
            have h2 := HONE.out
            simp only [HNN.out] at h2
            simp only [hEe]
            exact h2
          rw [hc] at h0
          have hne : (((1 : UInt8).toNat : Int) != 1) = false := by decide
          have HSL := hid (show (l.drop P).take (E - P) = seg by rw [HDR.out, show E - P = seg.length by rw [HNN.out]; omega]; simp)
          have j1 : (P : Int) ≤ (E : Int) := by omega
          have j2 : (E : Int) ≤ (cap : Int) := by omega
          have j3 : (0 : Int) ≤ (P : Int) := by omega
          have HSB := hid PJ.out.s
          have hE2 : P + n ≤ E := by omega
          clear hc hE hEe
          rcases cut_spec seg with ⟨hno, hcut⟩ | ⟨hd, vl, hsg, hno, hcut⟩
          · have HF0 := hid (show bodyR body (body.drop (P - F)) (P - F) (P - F) kind tags = ([], [], P - F, 3) by rw [HFL.out, if_pos (by unfold fieldE; rw [hcut]; simp)])
            have HNO := hid hno
            have HNA := hid (fun w => natural_any seg w (by rw [HNN.out]; omega))
            have cv1 := conv_sb ((HSB.out.drop P).take (E - P)) (cap - P)
            rw [HSL.out, show seg.length = E - P by rw [HNN.out]; omega] at cv1
            have cv2 := conv_sb ((HSB.out.drop E).take 0) (cap - E)
            simp only [List.take_zero, List.length_nil] at cv2
            clear hcut hno HFL
            go_wp2
            go_loopw [10] (fun qv w2 => ∃ Q : Nat, P ≤ Q ∧ Q ≤ E ∧ qv = .int .i64 Q ∧ w2 = wr) (fun qv _ => E - (RowKit.intOf qv).toNat)
            case atStart => exact ⟨P, Nat.le_refl _, by omega, rfl, rfl⟩
            case round =>
              obtain ⟨Q, hPQ, hQE, rfl, rfl⟩ := hrel
              by_cases hQ : Q < E
              · have hq : (Q : Int) < (E : Int) := by omega
                have g0 := HSB.out.at Q (by omega)
                have q0 : (0 : Int) ≤ (Q : Int) := by omega
                have q1 : (Q : Int) < (l.length : Int) := by omega
                obtain ⟨c, hc⟩ : ∃ c, l[Q]'(by omega) = c := ⟨_, rfl⟩
                rw [hc] at g0
                have hne2 : ((c.toNat : Int) != 61) = true := by
                  have h2 := HSEG.out (Q - P) (by rw [HNN.out]; omega)
                  have h3 : l[P + (Q - P)]'(by omega) = c := by rw [← hc]; congr 1; omega
                  rw [h3] at h2
                  simp
                  intro e
                  have e2 : c = 61 := UInt8.toNat_inj.1 (by simp; omega)
                  exact HNO.out (by rw [← e2, h2]; exact List.getElem_mem _)
                clear hc
                go_wp2
                go_roundw
                case rel => exact ⟨Q + 1, by omega, by omega, by go_num, trivial⟩
                case measure => simp [RowKit.intOf]; omega
              · obtain rfl : Q = E := by omega
                have hq : ¬ ((Q : Int) < (Q : Int)) := by omega
                have hmin : min ((Q : Int) + 1) (Q : Int) = (Q : Int) := by omega
                go_wp2_with (first | (go_at_call 41; refine (HNA.out _).mono ?_; rintro e w2 ⟨rfl, rfl⟩) | (go_at_call 60; refine (BA.out _ _ _).mono ?_; rintro e w1 ⟨rfl, hb⟩; have HB1 := hid hb; clear hb; refine Hid.out ?_))
                have HZ1 := hid (row_on PJ.out.z HB1.out)
                have HW1 := hid (btr' PJ.out.bel HB1.out)
                clear HB1
                refine Lib.hid ?_
                go_wp2_with (first | (refine wpList_st (by rfl) 81 (.tmp 6) (.tmp 71) (by rfl) w.heap.size (ansB P 3) (by rfl) (by rfl) 81 ansZ HZ1.out info67 rfl (by simp [ansB, Value.oneCell']) ?_; intro w5 hst; have HST := hid hst; clear hst; refine Hid.out ?_))
                refine Lib.hid ?_
                go_wp2
                exact bodyPost_ret (results_cell_row (fn := Tryz.f63) Tryz.results63 _ _ w.heap.size 81 (ansB P 3) (0, 0) _ (by rfl) HST.out.row Tryz.underlying81 rfl info67) rfl (HBADR.out 3 (by decide) HF0.out _ (HST.out.bel _ _ HW1.out (Nat.le_refl _)))
          · obtain ⟨m, hm⟩ : ∃ m, hd.length = m := ⟨_, rfl⟩
            have hnm : m + 1 + vl.length = n := by
              have := HNN.out
              rw [hsg] at this
              simp at this
              omega
            have HNO := hid (show ∀ k (hk : k < m), l[P + k]'(by omega) ≠ 61 from fun k hk e => by
              have h2 := HSEG.out k (by rw [HNN.out]; omega)
              rw [e] at h2
              simp only [hsg] at h2
              rw [List.getElem_append_left (by omega)] at h2
              exact hno (by rw [h2]; exact List.getElem_mem _))
            have HEQ := hid (show l[P + m]'(by omega) = 61 by
              have h2 := HSEG.out m (by rw [HNN.out]; omega)
              rw [h2]
              simp only [hsg]
              rw [List.getElem_append_right (by omega)]
              simp [hm])
            have HHD := hid (show (l.drop P).take m = hd by rw [HDR.out, hsg, ← hm]; simp)
            have HVL := hid (show (l.drop (P + m + 1)).take (E - (P + m + 1)) = vl by
              rw [show P + m + 1 = P + (m + 1) by omega, ← List.drop_drop, HDR.out, hsg, ← hm, show E - (P + (hd.length + 1)) = vl.length by omega]
              simp)
            have HFE := hid (show fieldE seg = if 4 < m then ((0, []), false) else (((((num hd).getD 0 : Nat) : Int), vl), (num hd).isSome) by
              unfold fieldE
              rw [hcut]
              simp only [hm, Bool.true_eq_false, false_or])
            have HNA := hid (fun w => natural_any hd w (by omega))
            rw [nat_num] at HNA
            clear hcut hno hsg
            go_wp2
            go_loopw [10] (fun qv w2 => ∃ Q : Nat, P ≤ Q ∧ Q ≤ P + m ∧ qv = .int .i64 Q ∧ w2 = wr) (fun qv _ => P + m - (RowKit.intOf qv).toNat)
            case atStart => exact ⟨P, Nat.le_refl _, by omega, rfl, rfl⟩
            case round =>
              obtain ⟨Q, hPQ, hQE, rfl, rfl⟩ := hrel
              have hq : (Q : Int) < (E : Int) := by omega
              have g0 := HSB.out.at Q (by omega)
              have q0 : (0 : Int) ≤ (Q : Int) := by omega
              have q1 : (Q : Int) < (l.length : Int) := by omega
              by_cases hQ : Q < P + m
              · obtain ⟨c, hc⟩ : ∃ c, l[Q]'(by omega) = c := ⟨_, rfl⟩
                rw [hc] at g0
                have hne2 : ((c.toNat : Int) != 61) = true := by
                  have h2 := HNO.out (Q - P) (by omega)
                  have h3 : l[P + (Q - P)]'(by omega) = c := by rw [← hc]; congr 1; omega
                  rw [h3] at h2
                  simp
                  intro e
                  exact h2 (UInt8.toNat_inj.1 (by simp; omega))
                clear hc
                go_wp2
                go_roundw
                case rel => exact ⟨Q + 1, by omega, by omega, by go_num, trivial⟩
                case measure => simp [RowKit.intOf]; omega
              · have hQe : Q = P + m := by omega
                have hc : l[Q]'(by omega) = 61 := by
                  have h2 := HEQ.out
                  simp only [hQe]
                  exact h2
                rw [hc] at g0
                have hne2 : (((61 : UInt8).toNat : Int) != 61) = false := by decide
                have hmin : min ((Q : Int) + 1) (E : Int) = (Q : Int) + 1 := by omega
                have hqe : ((Q : Int) == (E : Int)) = false := by simp; omega
                have cv1 := conv_sb ((HSB.out.drop P).take (Q - P)) (cap - P)
                rw [show Q - P = m by omega, HHD.out, show hd.length = Q - P by omega] at cv1
                have cv2 := conv_sb ((HSB.out.drop (Q + 1)).take (E - (Q + 1))) (cap - (Q + 1))
                rw [show (l.drop (Q + 1)).take (E - (Q + 1)) = vl by rw [hQe]; exact HVL.out, show vl.length = E - (Q + 1) by omega] at cv2
                have k1 : (P : Int) ≤ (Q : Int) := by omega
                have k2 : (Q : Int) ≤ (cap : Int) := by omega
                have k3 : (Q : Int) + 1 ≤ (E : Int) := by omega
                have k4 : (0 : Int) ≤ (Q : Int) + 1 := by omega
                have k5 : ¬ cap = Q + 1 := by omega
                have hgE : P - F + n + 1 = E + 1 - F := by omega
                have hvl2 : vl.length ≤ 5000 := by omega
                have HQM := hid (show Q - P = m by omega)
                clear hc hQ hQe HNO HEQ HHD HVL HSEG HONE
                cases hnum : num hd with
                | none =>
                  rw [hnum] at HNA HFE
                  simp only [Option.getD_none, Option.isSome_none] at HNA
                  have HF0 := hid (show bodyR body (body.drop (P - F)) (P - F) (P - F) kind tags = ([], [], P - F, 3) by rw [HFL.out, if_pos (by rw [HFE.out]; split <;> simp)])
                  clear HFL HFE hnum
                  go_wp2_with (first | (go_at_call 41; refine (HNA.out _).mono ?_; rintro e w2 ⟨rfl, rfl⟩) | (go_at_call 60; refine (BA.out _ _ _).mono ?_; rintro e w1 ⟨rfl, hb⟩; have HB1 := hid hb; clear hb; refine Hid.out ?_))
                  have HZ1 := hid (row_on PJ.out.z HB1.out)
                  have HW1 := hid (btr' PJ.out.bel HB1.out)
                  clear HB1
                  refine Lib.hid ?_
                  go_wp2_with (first | (refine wpList_st (by rfl) 81 (.tmp 6) (.tmp 71) (by rfl) w.heap.size (ansB P 3) (by rfl) (by rfl) 81 ansZ HZ1.out info67 rfl (by simp [ansB, Value.oneCell']) ?_; intro w5 hst; have HST := hid hst; clear hst; refine Hid.out ?_))
                  refine Lib.hid ?_
                  go_wp2
                  exact bodyPost_ret (results_cell_row (fn := Tryz.f63) Tryz.results63 _ _ w.heap.size 81 (ansB P 3) (0, 0) _ (by rfl) HST.out.row Tryz.underlying81 rfl info67) rfl (HBADR.out 3 (by decide) HF0.out _ (HST.out.bel _ _ HW1.out (Nat.le_refl _)))
                | some t =>
                  rw [hnum] at HNA HFE
                  simp only [Option.getD_some, Option.isSome_some] at HNA
                  by_cases h4 : 4 < m
                  · have HF0 := hid (show bodyR body (body.drop (P - F)) (P - F) (P - F) kind tags = ([], [], P - F, 3) by rw [HFL.out, if_pos (by rw [HFE.out, if_pos h4])])
                    have h5 : (4 : Int) < (Q : Int) - (P : Int) := by have := HQM.out; omega
                    clear HFL HFE hnum
                    go_wp2_with (first | (go_at_call 41; refine (HNA.out _).mono ?_; rintro e w2 ⟨rfl, rfl⟩) | (go_at_call 60; refine (BA.out _ _ _).mono ?_; rintro e w1 ⟨rfl, hb⟩; have HB1 := hid hb; clear hb; refine Hid.out ?_))
                    have HZ1 := hid (row_on PJ.out.z HB1.out)
                    have HW1 := hid (btr' PJ.out.bel HB1.out)
                    clear HB1
                    refine Lib.hid ?_
                    go_wp2_with (first | (refine wpList_st (by rfl) 81 (.tmp 6) (.tmp 71) (by rfl) w.heap.size (ansB P 3) (by rfl) (by rfl) 81 ansZ HZ1.out info67 rfl (by simp [ansB, Value.oneCell']) ?_; intro w5 hst; have HST := hid hst; clear hst; refine Hid.out ?_))
                    refine Lib.hid ?_
                    go_wp2
                    exact bodyPost_ret (results_cell_row (fn := Tryz.f63) Tryz.results63 _ _ w.heap.size 81 (ansB P 3) (0, 0) _ (by rfl) HST.out.row Tryz.underlying81 rfl info67) rfl (HBADR.out 3 (by decide) HF0.out _ (HST.out.bel _ _ HW1.out (Nat.le_refl _)))
                  · have HFE2 := hid (show fieldE seg = (((t : Int), vl), true) by rw [HFE.out, if_neg h4]; simp)
                    have h5 : ¬ (4 : Int) < (Q : Int) - (P : Int) := by have := HQM.out; omega
                    have ht5 := num_lt5 hd t hnum (by omega)
                    have hws : IntKind.i64.wrap (t : Int) = (t : Int) := by rw [IntKind.wrap_i64]; omega
                    clear HFE hnum h4
                    rw [HFE2.out, HNN.out] at HFL
                    simp only [Bool.true_eq_false, if_false] at HFL
                    rw [hgE] at HFL
                    obtain ⟨qv, cv, rfl, hTs, hcv, hcv2⟩ := PJ.out.ow.form
                    by_cases hPF : P = F
                    · have hpf : ((P : Int) == (F : Int)) = true := by simp; omega
                      rw [if_pos (by omega)] at HFL
                      clear hTs hPF
                      by_cases ht : t = 35
                      · have ht2 : ((t : Int) != 35) = false := by simp; omega
                        have HKA := hid (fun w => rkind_any vl w (by omega))
                        by_cases hk : KindOk vl
                        · rw [show kindE ((t : Int), vl) = (vl, 0) by unfold kindE; rw [if_pos ⟨by simp; omega, hk⟩]] at HFL
                          simp only [ne_eq, not_true_eq_false, if_false] at HFL
                          rw [decide_eq_true hk] at HKA
                          have a0 : wr.cell? ⟨w.heap.size + 1, 0, none⟩ = some (.string ⟨kind.toArray⟩) := row_cell PJ.out.a 0
                          have f0 := frozen_of_row wr (w.heap.size + 1) 0 _ _ PJ.out.a
                          have HPN := hid (PaR.put PJ.out HS.out (Below.refl _ _) PJ.out.ow 0 (.string ⟨vl.toArray⟩) rfl HFL.out (by omega) PJ.out.len)
                          clear HFL hk ht
                          go_wp2_with (first | (go_at_call 41; refine (HNA.out _).mono ?_; rintro e w2 ⟨rfl, rfl⟩) | (go_at_call 65; refine (HKA.out _).mono ?_; rintro e w2 ⟨rfl, rfl⟩))
                          go_roundw
                          case rel => exact ⟨E + 1, by omega, by omega, by go_num, vl, tags, _, HPN⟩
                          case measure => simp [RowKit.intOf]; omega
                        · rw [show kindE ((t : Int), vl) = ([], 3) by unfold kindE; rw [if_neg (fun h => hk h.2)]] at HFL
                          simp only [ne_eq, show (3 : Int) ≠ 0 by decide, not_false_eq_true, if_true] at HFL
                          rw [decide_eq_false hk] at HKA
                          clear hk ht
                          go_wp2_with (first | (go_at_call 41; refine (HNA.out _).mono ?_; rintro e w2 ⟨rfl, rfl⟩) | (go_at_call 65; refine (HKA.out _).mono ?_; rintro e w2 ⟨rfl, rfl⟩) | (go_at_call 60; refine (BA.out _ _ _).mono ?_; rintro e w1 ⟨rfl, hb⟩; have HB1 := hid hb; clear hb; refine Hid.out ?_))
                          have HZ1 := hid (row_on PJ.out.z HB1.out)
                          have HW1 := hid (btr' PJ.out.bel HB1.out)
                          clear HB1
                          refine Lib.hid ?_
                          go_wp2_with (first | (refine wpList_st (by rfl) 81 (.tmp 6) (.tmp 83) (by rfl) w.heap.size (ansB P 3) (by rfl) (by rfl) 81 ansZ HZ1.out info67 rfl (by simp [ansB, Value.oneCell']) ?_; intro w5 hst; have HST := hid hst; clear hst; refine Hid.out ?_))
                          refine Lib.hid ?_
                          go_wp2
                          exact bodyPost_ret (results_cell_row (fn := Tryz.f63) Tryz.results63 _ _ w.heap.size 81 (ansB P 3) (0, 0) _ (by rfl) HST.out.row Tryz.underlying81 rfl info67) rfl (HBADR.out 3 (by decide) HFL.out _ (HST.out.bel _ _ HW1.out (Nat.le_refl _)))
                      · have ht2 : ((t : Int) != 35) = true := by simp; omega
                        rw [show kindE ((t : Int), vl) = ([], 3) by unfold kindE; rw [if_neg (fun h => ht (by have := h.1; simp at this; omega))]] at HFL
                        simp only [ne_eq, show (3 : Int) ≠ 0 by decide, not_false_eq_true, if_true] at HFL
                        clear ht
                        go_wp2_with (first | (go_at_call 41; refine (HNA.out _).mono ?_; rintro e w2 ⟨rfl, rfl⟩) | (go_at_call 60; refine (BA.out _ _ _).mono ?_; rintro e w1 ⟨rfl, hb⟩; have HB1 := hid hb; clear hb; refine Hid.out ?_))
                        have HZ1 := hid (row_on PJ.out.z HB1.out)
                        have HW1 := hid (btr' PJ.out.bel HB1.out)
                        clear HB1
                        refine Lib.hid ?_
                        go_wp2_with (first | (refine wpList_st (by rfl) 81 (.tmp 6) (.tmp 83) (by rfl) w.heap.size (ansB P 3) (by rfl) (by rfl) 81 ansZ HZ1.out info67 rfl (by simp [ansB, Value.oneCell']) ?_; intro w5 hst; have HST := hid hst; clear hst; refine Hid.out ?_))
                        refine Lib.hid ?_
                        go_wp2
                        exact bodyPost_ret (results_cell_row (fn := Tryz.f63) Tryz.results63 _ _ w.heap.size 81 (ansB P 3) (0, 0) _ (by rfl) HST.out.row Tryz.underlying81 rfl info67) rfl (HBADR.out 3 (by decide) HFL.out _ (HST.out.bel _ _ HW1.out (Nat.le_refl _)))
                    · have hpf : ((P : Int) == (F : Int)) = false := by simp; omega
                      rw [if_neg (by omega)] at HFL
                      clear hPF
                      have a1 : wr.cell? ⟨w.heap.size + 1, 1, none⟩ = some (.slice qv tags.length cv) := row_cell PJ.out.a 1
                      have hl64 := PJ.out.len
                      have HTA := hid (fun w => istag_any (t : Int) w)
                      have HTH := hid (there_any tags qv cv (t : Int) wr (by omega) hTs)
                      have HVA := hid (fun w => risvalue_any vl w (by omega))
                      clear hTs
                      by_cases h64 : tags.length = 64
                      · rw [if_pos h64] at HFL
                        have g64 : (64 : Int) ≤ (tags.length : Int) := by omega
                        clear h64
                        go_wp2_with (first | (go_at_call 41; refine (HNA.out _).mono ?_; rintro e w2 ⟨rfl, rfl⟩) | (go_at_call 60; refine (BA.out _ _ _).mono ?_; rintro e w1 ⟨rfl, hb⟩; have HB1 := hid hb; clear hb; refine Hid.out ?_))
                        have HZ1 := hid (row_on PJ.out.z HB1.out)
                        have HW1 := hid (btr' PJ.out.bel HB1.out)
                        clear HB1
                        refine Lib.hid ?_
                        go_wp2_with (first | (refine wpList_st (by rfl) 81 (.tmp 6) (.tmp 91) (by rfl) w.heap.size (ansB P 2) (by rfl) (by rfl) 81 ansZ HZ1.out info67 rfl (by simp [ansB, Value.oneCell']) ?_; intro w5 hst; have HST := hid hst; clear hst; refine Hid.out ?_))
                        refine Lib.hid ?_
                        go_wp2
                        exact bodyPost_ret (results_cell_row (fn := Tryz.f63) Tryz.results63 _ _ w.heap.size 81 (ansB P 2) (0, 0) _ (by rfl) HST.out.row Tryz.underlying81 rfl info67) rfl (HBADR.out 2 (by decide) HFL.out _ (HST.out.bel _ _ HW1.out (Nat.le_refl _)))
                      · rw [if_neg h64] at HFL
                        have g64 : ¬ (64 : Int) ≤ (tags.length : Int) := by omega
                        by_cases u1 : TagOk (t : Int)
                        · rw [decide_eq_true u1] at HTA
                          cases u2 : (val? tags (t : Int)).isSome with
                          | true =>
                            rw [u2] at HTH
                            rw [show fitsE tags ((t : Int), vl) = 30 by unfold fitsE; rw [if_neg (by simpa using u1), if_pos u2]] at HFL
                            simp only [ne_eq, show (30 : Int) ≠ 0 by decide, not_false_eq_true, if_true] at HFL
                            go_wp2_with (first | (go_at_call 41; refine (HNA.out _).mono ?_; rintro e w2 ⟨rfl, rfl⟩) | (go_at_call 66; refine (HTA.out _).mono ?_; rintro e w2 ⟨rfl, rfl⟩) | (go_at_call 67; refine HTH.out.mono ?_; rintro e w2 ⟨rfl, rfl⟩) | (go_at_call 60; refine (BA.out _ _ _).mono ?_; rintro e w1 ⟨rfl, hb⟩; have HB1 := hid hb; clear hb; refine Hid.out ?_))
                            have HZ1 := hid (row_on PJ.out.z HB1.out)
                            have HW1 := hid (btr' PJ.out.bel HB1.out)
                            clear HB1
                            refine Lib.hid ?_
                            go_wp2_with (first | (refine wpList_st (by rfl) 81 (.tmp 6) (.tmp 104) (by rfl) w.heap.size (ansB P 30) (by rfl) (by rfl) 81 ansZ HZ1.out info67 rfl (by simp [ansB, Value.oneCell']) ?_; intro w5 hst; have HST := hid hst; clear hst; refine Hid.out ?_))
                            refine Lib.hid ?_
                            go_wp2
                            exact bodyPost_ret (results_cell_row (fn := Tryz.f63) Tryz.results63 _ _ w.heap.size 81 (ansB P 30) (0, 0) _ (by rfl) HST.out.row Tryz.underlying81 rfl info67) rfl (HBADR.out 30 (by decide) HFL.out _ (HST.out.bel _ _ HW1.out (Nat.le_refl _)))
                          | false =>
                            rw [u2] at HTH
                            by_cases u3 : ValOk vl
                            · rw [decide_eq_true u3] at HVA
                              rw [show fitsE tags ((t : Int), vl) = 0 by unfold fitsE; rw [if_neg (by simpa using u1), if_neg (by simp [u2]), if_neg (by simpa using u3)]] at HFL
                              simp only [ne_eq, not_true_eq_false, if_false] at HFL
                              have HPN := hid (fun w3 v3 hO => PaR.put (w3 := w3) (v' := v3) PJ.out HS.out (show OwnT (w.heap.size + 2) wr w3 v3 (tags ++ [((t : Int), vl)]) from hO).2.1 hO 1 v3 rfl HFL.out (by omega) (by simp; omega))
                              clear HFL u1 u2 u3
                              go_wp2_with (first | (go_at_call 41; refine (HNA.out _).mono ?_; rintro e w2 ⟨rfl, rfl⟩) | (go_at_call 66; refine (HTA.out _).mono ?_; rintro e w2 ⟨rfl, rfl⟩) | (go_at_call 67; refine HTH.out.mono ?_; rintro e w2 ⟨rfl, rfl⟩) | (go_at_call 68; refine (HVA.out _).mono ?_; rintro e w2 ⟨rfl, rfl⟩) | (at_builtin; refine own_tag (by rfl) (.tmp 111) (.tmp 116) (by rfl) (w.heap.size + 2) _ tags (by rfl) _ _ t vl PJ.out.ow (by rfl) (by omega) ?_; intro v3 w3 hO3; obtain ⟨q3, c3, rfl, _, _, _⟩ := hO3.form; have HO3 := hid hO3; clear hO3; have a3 : w3.cell? ⟨w.heap.size + 1, 1, none⟩ = some (.slice qv tags.length cv) := row_cell (show w3.heap[w.heap.size + 1]? = some (.cells (ansV kind (.slice qv tags.length cv) 0 0 false 0) 81 (0, 0)) by rw [HO3.out.2.1.block _ (by omega)]; exact PJ.out.a) 1; have f3 := frozen_of_row w3 (w.heap.size + 1) 1 _ _ (show w3.heap[w.heap.size + 1]? = some (.cells (ansV kind (.slice qv tags.length cv) 0 0 false 0) 81 (0, 0)) by rw [HO3.out.2.1.block _ (by omega)]; exact PJ.out.a)))
                              go_roundw
                              case rel => exact ⟨E + 1, by omega, by omega, by go_num, kind, tags ++ [((t : Int), vl)], _, hid (HPN.out _ _ (by have h := HO3.out; rw [List.length_append] at h; exact h))⟩
                              case measure => simp [RowKit.intOf]; omega
                            · rw [decide_eq_false u3] at HVA
                              rw [show fitsE tags ((t : Int), vl) = 31 by unfold fitsE; rw [if_neg (by simpa using u1), if_neg (by simp [u2]), if_pos u3]] at HFL
                              simp only [ne_eq, show (31 : Int) ≠ 0 by decide, not_false_eq_true, if_true] at HFL
                              clear u1 u2 u3
                              go_wp2_with (first | (go_at_call 41; refine (HNA.out _).mono ?_; rintro e w2 ⟨rfl, rfl⟩) | (go_at_call 66; refine (HTA.out _).mono ?_; rintro e w2 ⟨rfl, rfl⟩) | (go_at_call 67; refine HTH.out.mono ?_; rintro e w2 ⟨rfl, rfl⟩) | (go_at_call 68; refine (HVA.out _).mono ?_; rintro e w2 ⟨rfl, rfl⟩) | (go_at_call 60; refine (BA.out _ _ _).mono ?_; rintro e w1 ⟨rfl, hb⟩; have HB1 := hid hb; clear hb; refine Hid.out ?_))
                              have HZ1 := hid (row_on PJ.out.z HB1.out)
                              have HW1 := hid (btr' PJ.out.bel HB1.out)
                              clear HB1
                              refine Lib.hid ?_
                              go_wp2_with (first | (refine wpList_st (by rfl) 81 (.tmp 6) (.tmp 109) (by rfl) w.heap.size (ansB P 31) (by rfl) (by rfl) 81 ansZ HZ1.out info67 rfl (by simp [ansB, Value.oneCell']) ?_; intro w5 hst; have HST := hid hst; clear hst; refine Hid.out ?_))
                              refine Lib.hid ?_
                              go_wp2
                              exact bodyPost_ret (results_cell_row (fn := Tryz.f63) Tryz.results63 _ _ w.heap.size 81 (ansB P 31) (0, 0) _ (by rfl) HST.out.row Tryz.underlying81 rfl info67) rfl (HBADR.out 31 (by decide) HFL.out _ (HST.out.bel _ _ HW1.out (Nat.le_refl _)))
                        · rw [decide_eq_false u1] at HTA
                          rw [show fitsE tags ((t : Int), vl) = 30 by unfold fitsE; rw [if_pos (by simpa using u1)]] at HFL
                          simp only [ne_eq, show (30 : Int) ≠ 0 by decide, not_false_eq_true, if_true] at HFL
                          clear u1
                          go_wp2_with (first | (go_at_call 41; refine (HNA.out _).mono ?_; rintro e w2 ⟨rfl, rfl⟩) | (go_at_call 66; refine (HTA.out _).mono ?_; rintro e w2 ⟨rfl, rfl⟩) | (go_at_call 60; refine (BA.out _ _ _).mono ?_; rintro e w1 ⟨rfl, hb⟩; have HB1 := hid hb; clear hb; refine Hid.out ?_))
                          have HZ1 := hid (row_on PJ.out.z HB1.out)
                          have HW1 := hid (btr' PJ.out.bel HB1.out)
                          clear HB1
                          refine Lib.hid ?_
                          go_wp2_with (first | (refine wpList_st (by rfl) 81 (.tmp 6) (.tmp 104) (by rfl) w.heap.size (ansB P 30) (by rfl) (by rfl) 81 ansZ HZ1.out info67 rfl (by simp [ansB, Value.oneCell']) ?_; intro w5 hst; have HST := hid hst; clear hst; refine Hid.out ?_))
                          refine Lib.hid ?_
                          go_wp2
                          exact bodyPost_ret (results_cell_row (fn := Tryz.f63) Tryz.results63 _ _ w.heap.size 81 (ansB P 30) (0, 0) _ (by rfl) HST.out.row Tryz.underlying81 rfl info67) rfl (HBADR.out 30 (by decide) HFL.out _ (HST.out.bel _ _ HW1.out (Nat.le_refl _)))
    · obtain rfl : P = T := by omega
      have hlt' : ¬ (P : Int) < (P : Int) := by omega
      have HEE := hid (show bodyR body body 0 0 [] [] = (kind, tags, 0, 0) from PJ.out.eq.trans (bodyR_end body kind tags (P - F) (by omega)))
      obtain ⟨qv, cv, rfl, hTs, hcv, hcv2⟩ := PJ.out.ow.form
      have ha := PJ.out.a
      have x0 : wr.cell? ⟨w.heap.size + 1, 0, none⟩ = some (.string ⟨kind.toArray⟩) := row_cell ha 0
      have x1 : wr.cell? ⟨w.heap.size + 1, 1, none⟩ = some (.slice qv tags.length cv) := row_cell ha 1
      have x2 : wr.cell? ⟨w.heap.size + 1, 2, none⟩ = some (.int .i64 0) := row_cell ha 2
      have x3 : wr.cell? ⟨w.heap.size + 1, 3, none⟩ = some (.int .i64 0) := row_cell ha 3
      have x4 : wr.cell? ⟨w.heap.size + 1, 4, none⟩ = some (.bool false) := row_cell ha 4
      have x5 : wr.cell? ⟨w.heap.size + 1, 5, none⟩ = some (.int .i64 0) := row_cell ha 5
      clear HBD ha hTs
      go_wp2_with (first | (refine wpList_st (by rfl) 81 (.tmp 6) (.tmp 121) (by rfl) w.heap.size (ansV kind (.slice qv tags.length cv) 0 0 false 0) (by rfl) (by rfl) 81 ansZ PJ.out.z info67 rfl (by simp [ansV, Value.oneCell']) ?_; intro w5 hst; have HST := hid hst; clear hst; refine Hid.out ?_))
      refine Lib.hid ?_
      go_wp2
      refine bodyPost_ret (results_cell_row (fn := Tryz.f63) Tryz.results63 _ _ w.heap.size 81 (ansV kind (.slice qv tags.length cv) 0 0 false 0) (0, 0) _ (by rfl) HST.out.row Tryz.underlying81 rfl info67) rfl ?_
      have hb5 := HST.out.bel _ _ PJ.out.bel (Nat.le_refl _)
      rw [HEE.out]
      exact ⟨hb5, Or.inr ⟨rfl, _, rfl, PJ.out.ow.same (by omega) (fun k hk => HST.out.oth k (by omega)) HST.out.siz hb5⟩⟩
end Go.Proofs.YtjgjoohdocjpkaaGreatDoor
namespace Go.Proofs.YtjgjoohdocjpkaaGreatDoor
open Go.RowKit Go.Deep Go.Lib Go.Shelf Go.Sort
set_option linter.unusedVariables false
theorem headR_bad (l : List UInt8) (h : (headR l).2.2 ≠ 0) : outE l = ((0, 0), (headR l).2.1, (headR l).2.2) := by
  by_cases h0 : (begE l 0 10).2 = 0
  · have hO : ∀ p e, lenE l = ((0, 0), p, e) → e ≠ 0 → outE l = ((0, 0), p, e) := fun p e hl he => by
      unfold outE
      rw [if_neg (by simpa using h0), hl]
      simp only
      rw [if_pos he]
    by_cases h1 : 10 + digN (l.drop 10) 0 5 = l.length
    · have hH : headR l = ((0, 0), l.length, 20) := by unfold headR; rw [if_neg (by simpa using h0), if_pos h1]
      rw [hH]
      exact hO _ _ (by unfold lenE; rw [if_pos h1, h1]) (by simp)
    · cases hn : num ((l.drop 10).take (digN (l.drop 10) 0 5)) with
      | none =>
        have hH : headR l = ((0, 0), 10, 3) := by unfold headR; rw [if_neg (by simpa using h0), if_neg h1, hn]
        rw [hH]
        exact hO _ _ (by unfold lenE; rw [if_neg h1, hn]) (by decide)
      | some s =>
        by_cases h2 : digN (l.drop 10) 0 5 = 5 ∨ l[10 + digN (l.drop 10) 0 5]? ≠ some 1
        · have hH : headR l = ((0, 0), 10, 3) := by unfold headR; rw [if_neg (by simpa using h0), if_neg h1, hn]; simp only; rw [if_pos h2]
          rw [hH]
          exact hO _ _ (by unfold lenE; rw [if_neg h1, hn]; simp only; rw [if_pos h2]) (by decide)
        · exfalso
          apply h
          unfold headR
          rw [if_neg (by simpa using h0), if_neg h1, hn]
          simp only
          rw [if_neg h2]
  · have hH : headR l = ((0, 0), (begE l 0 10).1, (begE l 0 10).2) := by unfold headR; rw [if_pos (by simpa using h0)]
    rw [hH]
    unfold outE
    rw [if_pos (by simpa using h0)]
theorem headR_ok {l : List UInt8} {f s p : Nat} (h : headR l = ((f, s), p, 0)) : p = 0 ∧ (begE l 0 10).2 = 0 ∧ 11 ≤ f ∧ f ≤ 16 ∧ f ≤ l.length ∧ s < 100000 ∧ (2048 < f + s + 7 → outE l = ((0, 0), 10, 2)) ∧ (f + s + 7 ≤ 2048 → lenE l = ((f, f + s), 0, 0)) := by
  unfold headR at h
  by_cases h0 : (begE l 0 10).2 = 0
  · rw [if_neg (by simpa using h0)] at h
    by_cases h1 : 10 + digN (l.drop 10) 0 5 = l.length
    · rw [if_pos h1] at h
      simp at h
    · rw [if_neg h1] at h
      cases hn : num ((l.drop 10).take (digN (l.drop 10) 0 5)) with
      | none =>
        rw [hn] at h
        simp at h
      | some s' =>
        rw [hn] at h
        simp only at h
        by_cases h2 : digN (l.drop 10) 0 5 = 5 ∨ l[10 + digN (l.drop 10) 0 5]? ≠ some 1
        · rw [if_pos h2] at h
          simp at h
        · rw [if_neg h2] at h
          simp only [Prod.mk.injEq] at h
          obtain ⟨⟨hf, rfl⟩, rfl, _⟩ := h
          have h10 := (begE_ok l 10 0 h0 (Nat.zero_le _)).1
          have hd := digN_le (l.drop 10) 5 0 (by omega)
          have h3 : l[10 + digN (l.drop 10) 0 5]? = some 1 := by
            apply Classical.byContradiction
            intro hc
            exact h2 (Or.inr hc)
          have h4 := (List.getElem?_eq_some_iff.1 h3).1
          have hs := num_lt5 _ s' hn (by simp; omega)
          have hE : lenE l = if 2048 < 10 + digN (l.drop 10) 0 5 + 1 + s' + 7 then ((0, 0), 10, 2) else ((10 + digN (l.drop 10) 0 5 + 1, 10 + digN (l.drop 10) 0 5 + 1 + s'), 0, 0) := by
            unfold lenE
            rw [if_neg h1, hn]
            simp only
            rw [if_neg h2]
          rw [hf] at hE
          refine ⟨rfl, h0, by omega, by omega, by omega, hs, fun hb => ?_, fun hb => ?_⟩
          · unfold outE
            rw [if_neg (by simpa using h0), hE, if_pos hb]
            simp
          · rw [hE, if_neg (by omega)]
  · rw [if_pos (by simpa using h0)] at h
    simp only [Prod.mk.injEq] at h
    exact absurd h.2.2 h0
theorem outE_of {l : List UInt8} {f t : Nat} (h0 : (begE l 0 10).2 = 0) (h1 : lenE l = ((f, t), 0, 0)) : outE l = if l.length < t + 7 then ((0, 0), l.length, 20) else if ¬ TrailOk ((l.drop t).take 7) ∨ f = t ∨ l[t - 1]? ≠ some 1 then ((0, 0), t, 32) else if (l.drop t).take 7 ≠ trailB (l.take t) then ((0, 0), t, 33) else ((f, t), 0, 0) := by
  unfold outE
  rw [if_neg (by simpa using h0), h1]
  simp only [ne_eq, not_true_eq_false, if_false]
theorem trailOk_iff (c0 c1 c2 c3 c4 c5 c6 : UInt8) : TrailOk [c0, c1, c2, c3, c4, c5, c6] ↔ ([c0, c1, c2] = [49, 48, 61] ∧ (Dig c3 ∧ Dig c4 ∧ Dig c5) ∧ c6 = 1) := by
  constructor
  · intro h
    have e0 := h 0 (by simp)
    have e1 := h 1 (by simp)
    have e2 := h 2 (by simp)
    have e3 := h 3 (by simp)
    have e4 := h 4 (by simp)
    have e5 := h 5 (by simp)
    have e6 := h 6 (by simp)
    simp [TrAt, form] at e0 e1 e2 e3 e4 e5 e6
    have d : Dig 48 := by decide
    refine ⟨by rw [← e0, ← e1, ← e2], ⟨?_, ?_, ?_⟩, e6.symm⟩
    · rcases e3 with e | e
      · exact e
      · exact e ▸ d
    · rcases e4 with e | e
      · exact e
      · exact e ▸ d
    · rcases e5 with e | e
      · exact e
      · exact e ▸ d
  · rintro ⟨e, ⟨d3, d4, d5⟩, rfl⟩ i hi
    simp only [List.cons.injEq, and_true] at e
    obtain ⟨rfl, rfl, rfl⟩ := e
    simp at hi
    unfold TrAt form
    obtain rfl | rfl | rfl | rfl | rfl | rfl | rfl : i = 0 ∨ i = 1 ∨ i = 2 ∨ i = 3 ∨ i = 4 ∨ i = 5 ∨ i = 6 := by omega
    · simp
    · simp
    · simp
    · exact Or.inl ⟨by omega, by omega, d3⟩
    · exact Or.inl ⟨by omega, by omega, d4⟩
    · exact Or.inl ⟨by omega, by omega, d5⟩
    · simp
theorem trailB_iff (c3 c4 c5 : UInt8) (x : List UInt8) : [49, 48, 61, c3, c4, c5, 1] = trailB x ↔ [c3, c4, c5] = (decDigits (1000 + sumB x)).drop 1 := by
  have h3 : ((decDigits (1000 + sumB x)).drop 1).length = 3 := by
    rw [three_plain _ (sumB_lt x)]
    rfl
  unfold trailB
  obtain ⟨D, hD⟩ : ∃ D, (decDigits (1000 + sumB x)).drop 1 = D := ⟨_, rfl⟩
  rw [hD] at h3 ⊢
  match D, h3 with
  | [d0, d1, d2], _ => simp
theorem list7b {l : List UInt8} (h : l.length = 7) : ∃ c0 c1 c2 c3 c4 c5 c6, l = [c0, c1, c2, c3, c4, c5, c6] := by
  match l, h with
  | [c0, c1, c2, c3, c4, c5, c6], _ => exact ⟨c0, c1, c2, c3, c4, c5, c6, rfl⟩
end Go.Proofs.YtjgjoohdocjpkaaGreatDoor
namespace Go.Proofs.YtjgjoohdocjpkaaGreatDoor
open Go.RowKit Go.Deep Go.Lib Go.Shelf Go.Sort
set_option linter.unusedVariables false
set_option linter.unusedSimpArgs false
/-- what Read of bytes says. -/
def ReadP (l : List UInt8) (w : World) (e : Ending) (w' : World) : Prop :=
  ∃ v, e = .returned (.agg (ansV (decR l).1 v ((decR l).2.2.1 : Nat) (decR l).2.2.2 (decide ((outE l).2.2 = 0)) ((if (outE l).2.2 = 0 then (outE l).1.2 + 7 else 0 : Nat)))) ∧ OwnT w.heap.size w w' v (decR l).2.1
theorem readP_bad {l : List UInt8} {w w' : World} {p : Nat} {why : Int} (hw : why ≠ 0) (h : outE l = ((0, 0), p, why)) (hb : Below w.heap.size w w') : ReadP l w (.returned (.agg (ansB p why))) w' := by
  have hd : decR l = ([], [], p, why) := by unfold decR; rw [h]; simp only; rw [if_pos hw]
  refine ⟨.slice none 0 0, ?_, ?_⟩
  · rw [hd, h]
    simp only [hw, decide_false, if_false]
    rfl
  · rw [hd]
    exact ownT_nilB hb
theorem cells67 {w : World} {g : Nat} {a b c d e f : Value} (h : w.heap[g]? = some (.cells #[a, b, c, d, e, f] 81 (0, 0))) : w.cell? ⟨g, 0, none⟩ = some a ∧ w.cell? ⟨g, 1, none⟩ = some b ∧ w.cell? ⟨g, 2, none⟩ = some c ∧ w.cell? ⟨g, 3, none⟩ = some d ∧ w.cell? ⟨g, 4, none⟩ = some e ∧ w.cell? ⟨g, 5, none⟩ = some f :=
  ⟨row_cell h 0, row_cell h 1, row_cell h 2, row_cell h 3, row_cell h 4, row_cell h 5⟩
set_option maxHeartbeats 4000000 in
set_option maxRecDepth 100000 in
theorem read_bad (l : List UInt8) (q : Option Addr) (cap : Nat) (w : World) (hl : l.length < 4611686018427387904) (hcap : l.length ≤ cap) (hcm : cap < 9223372036854775808) (hS : Sb w q l) (hh : (headR l).2.2 ≠ 0) :
    Calls Tryz.prog 39 #[.slice q l.length cap] w fun e w' => ReadP l w e w' := by
  have hO := headR_bad l hh
  have HH := hid (fun w' hb => head_any l q cap w' hl hcap hcm (hS.on (show Below w.heap.size w w' from hb)))
  obtain ⟨z, p, why, hx⟩ : ∃ z p why, headR l = (z, p, why) := ⟨_, _, _, rfl⟩
  rw [hx] at HH hO hh
  unfold headV at HH
  have hne : (why != 0) = true := by simpa using hh
  have HBADR := hid (show ∀ w', Below w.heap.size w w' → ReadP l w (.returned (.agg (ansB p why))) w' from fun w' hb => readP_bad hh hO hb)
  have HZ0 := hid (show (w.alloc (.cells ansZ 81)).heap[w.heap.size]? = some (.cells ansZ 81 (0, 0)) from heap_alloc_new _ _)
  clear hO hh hx hS
  unfold ansB at HH
  go_enter Tryz.func39, Tryz.ntmps39
  go_wp2_with (first | (go_at_call 59; refine (HH.out _ (ball _ _)).mono ?_; rintro e w1 ⟨rfl, hb⟩; have HB1 := hid hb; clear hb; refine Hid.out ?_))
  have HZ2 := hid (show (w1.alloc (.cells (ansB p why) 81)).heap[w.heap.size]? = some (.cells ansZ 81 (0, 0)) from row_on (row_on HZ0.out HB1.out) (ball _ _))
  have HW2 := hid (show Below w.heap.size w (w1.alloc (.cells (ansB p why) 81)) from btr' (btr' (ball _ _) HB1.out) (ball _ _))
  obtain ⟨x0, x1, x2, x3, x4, x5⟩ := cells67 (show (w1.alloc (.cells (ansB p why) 81)).heap[w1.heap.size]? = some (.cells #[.string ⟨#[]⟩, .slice none 0 0, .int .i64 p, .int .i64 why, .bool false, .int .i64 0] 81 (0, 0)) from heap_alloc_new _ _)
  unfold ansB at HZ2 HW2 x0 x1 x2 x3 x4 x5
  clear HZ0 HB1
  refine Lib.hid ?_
  go_wp2_with (first | (refine wpList_st (by rfl) 81 (.tmp 2) (.tmp 18) (by rfl) w.heap.size (ansB p why) (by rfl) (by rfl) 81 ansZ HZ2.out info67 rfl (by simp [ansB, Value.oneCell']) ?_; intro w5 hst; have HST := hid hst; clear hst; refine Hid.out ?_))
  refine Lib.hid ?_
  go_wp2
  exact bodyPost_ret (results_cell_row (fn := Tryz.f39) Tryz.results39 _ _ w.heap.size 81 (ansB p why) (0, 0) _ (by rfl) HST.out.row Tryz.underlying81 rfl info67) rfl (HBADR.out _ (HST.out.bel _ _ HW2.out (Nat.le_refl _)))
theorem last_of {l : List UInt8} {f p : Nat} (h : l[p - 1]? = some 1) (hf : f < p) (hp : p ≤ l.length) : ((l.drop f).take (p - f)).getLast? = some 1 := by
  rw [List.getLast?_eq_getElem?]
  have hlen : ((l.drop f).take (p - f)).length = p - f := by simp; omega
  rw [hlen, List.getElem?_take, if_pos (by omega), List.getElem?_drop, show f + (p - f - 1) = p - 1 by omega]
  exact h
/-- what is left behind the answer's last cells. -/
theorem own_end {w w4 w5 w6 w7 w8 : World} {G : Nat} {t1 t2 : TypeId} {c1 c2 : Array Value} {v : Value} {tg : List (Int × List UInt8)} (hO : OwnT w4.heap.size w4 w5 v tg) (hW : Below w.heap.size w w4) (hG : w.heap.size < G) (hG4 : G < w4.heap.size)
    (h6 : St w5 G t1 c1 w6) (h7 : ∀ k, k ≠ G → w7.heap[k]? = w6.heap[k]?) (hs7 : w7.heap.size = w6.heap.size) (hb7 : Below w.heap.size w w6 → Below w.heap.size w w7) (h8 : St w7 w.heap.size t2 c2 w8) : OwnT w.heap.size w w8 v tg := by
  have b5 : Below w.heap.size w w5 := hW.trans (hO.2.1.mono hW.size)
  have b8 := h8.bel _ _ (hb7 (h6.bel _ _ b5 (by omega))) (Nat.le_refl _)
  exact hO.same hW.size (fun k hk => by rw [h8.oth k (by omega), h7 k (by omega), h6.oth k (by omega)]) (by rw [h8.siz, hs7, h6.siz]) b8
set_option maxHeartbeats 4000000 in
set_option maxRecDepth 100000 in
theorem read_ok (l : List UInt8) (b o : Nat) (cap : Nat) (w : World) (hl : l.length < 4611686018427387904) (hcap : l.length ≤ cap) (hcm : cap < 9223372036854775808) (hS : Sb w (some ⟨b, o, none⟩) l) (f s : Nat) (hh : headR l = ((f, s), 0, 0)) :
    Calls Tryz.prog 39 #[.slice (some ⟨b, o, none⟩) l.length cap] w fun e w' => ReadP l w e w' := by
  obtain ⟨_, hb0, hf1, hf2, hfl, hs, ho1, ho2⟩ := headR_ok hh
  have HH := hid (fun w' hb => head_any l (some ⟨b, o, none⟩) cap w' hl hcap hcm (hS.on (show Below w.heap.size w w' from hb)))
  have HS := hid hS
  have BA := hid bad_any
  rw [hh] at HH
  unfold headV ansB at HH
  have HBADR := hid (show ∀ (p : Nat) (why : Int), why ≠ 0 → outE l = ((0, 0), p, why) → ∀ w', Below w.heap.size w w' → ReadP l w (.returned (.agg (ansB p why))) w' from fun p why hw hO w' hb => readP_bad hw hO hb)
  have HZ0 := hid (show (w.alloc (.cells ansZ 81)).heap[w.heap.size]? = some (.cells ansZ 81 (0, 0)) from heap_alloc_new _ _)
  clear hS hh
  have HO2 := hid (fun h => outE_of hb0 (ho2 h))
  have HO1 := hid ho1
  clear ho1 ho2 hb0
  go_enter Tryz.func39, Tryz.ntmps39
  go_wp2_with (first | (go_at_call 59; refine (HH.out _ (ball _ _)).mono ?_; rintro e w1 ⟨rfl, hb⟩; have HB1 := hid hb; clear hb; refine Hid.out ?_))
  have HZ2 := hid (show (w1.alloc (.cells (ansB 0 0) 81)).heap[w.heap.size]? = some (.cells ansZ 81 (0, 0)) from row_on (row_on HZ0.out HB1.out) (ball _ _))
  have HW2 := hid (show Below w.heap.size w (w1.alloc (.cells (ansB 0 0) 81)) from btr' (btr' (ball _ _) HB1.out) (ball _ _))
  have HA2 := hid (show (w1.alloc (.cells (ansB 0 0) 81)).heap[w1.heap.size]? = some (.cells #[.string ⟨#[]⟩, .slice none 0 0, .int .i64 0, .int .i64 0, .bool false, .int .i64 0] 81 (0, 0)) from heap_alloc_new _ _)
  have hG : w.heap.size < w1.heap.size := by have := HB1.out.size; simp at this; omega
  obtain ⟨x0, x1, x2, x3, x4, x5⟩ := cells67 HA2.out
  unfold ansB at HZ2 HW2 HA2 x0 x1 x2 x3 x4 x5
  clear HZ0 HB1
  refine Lib.hid ?_
  obtain ⟨p, hp⟩ : ∃ p, f + s = p := ⟨_, rfl⟩
  have hpi : (f : Int) + (s : Int) = (p : Int) := by omega
  by_cases hbig : 2048 < f + s + 7
  · have HO := hid (HO1.out hbig)
    have hb2 : (2048 : Int) < (p : Int) + 7 := by omega
    clear HO1 HO2 hbig
    go_wp2_with (first | (go_at_call 60; refine (BA.out _ _ _).mono ?_; rintro e w3 ⟨rfl, hb⟩; have HB3 := hid hb; clear hb; refine Hid.out ?_))
    have HZ3 := hid (row_on HZ2.out HB3.out)
    have HW3 := hid (btr' HW2.out HB3.out)
    clear HB3
    refine Lib.hid ?_
    go_wp2_with (first | (refine wpList_st (by rfl) 81 (.tmp 2) (.tmp 24) (by rfl) w.heap.size (ansB 10 2) (by rfl) (by rfl) 81 ansZ HZ3.out info67 rfl (by simp [ansB, Value.oneCell']) ?_; intro w5 hst; have HST := hid hst; clear hst; refine Hid.out ?_))
    refine Lib.hid ?_
    go_wp2
    exact bodyPost_ret (results_cell_row (fn := Tryz.f39) Tryz.results39 _ _ w.heap.size 81 (ansB 10 2) (0, 0) _ (by rfl) HST.out.row Tryz.underlying81 rfl info67) rfl (HBADR.out 10 2 (by decide) HO.out _ (HST.out.bel _ _ HW3.out (Nat.le_refl _)))
  · have hb2 : ¬ (2048 : Int) < (p : Int) + 7 := by omega
    have HO := hid (HO2.out (by omega))
    rw [hp] at HO
    clear HO1 HO2 hbig
    by_cases hsh : l.length < p + 7
    · rw [if_pos hsh] at HO
      have hs2 : (l.length : Int) < (p : Int) + 7 := by omega
      go_wp2_with (first | (go_at_call 60; refine (BA.out _ _ _).mono ?_; rintro e w3 ⟨rfl, hb⟩; have HB3 := hid hb; clear hb; refine Hid.out ?_))
      have HZ3 := hid (row_on HZ2.out HB3.out)
      have HW3 := hid (btr' HW2.out HB3.out)
      clear HB3
      refine Lib.hid ?_
      go_wp2_with (first | (refine wpList_st (by rfl) 81 (.tmp 2) (.tmp 35) (by rfl) w.heap.size (ansB l.length 20) (by rfl) (by rfl) 81 ansZ HZ3.out info67 rfl (by simp [ansB, Value.oneCell']) ?_; intro w5 hst; have HST := hid hst; clear hst; refine Hid.out ?_))
      refine Lib.hid ?_
      go_wp2
      exact bodyPost_ret (results_cell_row (fn := Tryz.f39) Tryz.results39 _ _ w.heap.size 81 (ansB l.length 20) (0, 0) _ (by rfl) HST.out.row Tryz.underlying81 rfl info67) rfl (HBADR.out l.length 20 (by decide) HO.out _ (HST.out.bel _ _ HW3.out (Nat.le_refl _)))
    · rw [if_neg hsh] at HO
      have hs2 : ¬ (l.length : Int) < (p : Int) + 7 := by omega
      obtain ⟨c0, c1, c2, c3, c4, c5, c6, hTK⟩ := list7b (show ((l.drop p).take 7).length = 7 by simp; omega)
      rw [hTK] at HO
      have HSW := hid (HS.out.on HW2.out)
      have hT := ((HSW.out.drop p).take 7)
      rw [hTK] at hT
      have y3 : (w1.alloc (.cells #[.string ⟨#[]⟩, .slice none 0 0, .int .i64 0, .int .i64 0, .bool false, .int .i64 0] 81)).cell? ⟨b, o + p + 3, none⟩ = some (.int .u8 (c3.toNat : Int)) := hT.at 3 (by simp)
      have y4 : (w1.alloc (.cells #[.string ⟨#[]⟩, .slice none 0 0, .int .i64 0, .int .i64 0, .bool false, .int .i64 0] 81)).cell? ⟨b, o + p + 4, none⟩ = some (.int .u8 (c4.toNat : Int)) := hT.at 4 (by simp)
      have y5 : (w1.alloc (.cells #[.string ⟨#[]⟩, .slice none 0 0, .int .i64 0, .int .i64 0, .bool false, .int .i64 0] 81)).cell? ⟨b, o + p + 5, none⟩ = some (.int .u8 (c5.toNat : Int)) := hT.at 5 (by simp)
      have y6 : (w1.alloc (.cells #[.string ⟨#[]⟩, .slice none 0 0, .int .i64 0, .int .i64 0, .bool false, .int .i64 0] 81)).cell? ⟨b, o + p + 6, none⟩ = some (.int .u8 (c6.toNat : Int)) := hT.at 6 (by simp)
      have cv3 : (convert 22 9 (.slice (some ⟨b, o + p, none⟩) 3 (cap - p))).run Tryz.prog (w1.alloc (.cells #[.string ⟨#[]⟩, .slice none 0 0, .int .i64 0, .int .i64 0, .bool false, .int .i64 0] 81)) = .ok (.string ⟨#[c0, c1, c2]⟩) (w1.alloc (.cells #[.string ⟨#[]⟩, .slice none 0 0, .int .i64 0, .int .i64 0, .bool false, .int .i64 0] 81)) := conv_sb (hT.take 3) (cap - p)
      have HCV := hid (show ∀ w', Below w.heap.size w w' → (convert 22 9 (.slice (some ⟨b, o + p + 3, none⟩) 3 (cap - p - 3))).run Tryz.prog w' = .ok (.string ⟨#[c3, c4, c5]⟩) w' from fun w' hb => by
        have h := (((HS.out.on hb).drop p).take 7)
        rw [hTK] at h
        exact conv_sb ((h.drop 3).take 3) (cap - p - 3))
      have k1 : (0 : Int) ≤ (p : Int) := by omega
      have k2 : (p : Int) ≤ (p : Int) + 7 := by omega
      have k3 : (p : Int) + 7 ≤ (cap : Int) := by omega
      have k4 : ((p : Int) + 7).toNat - p = 7 := by omega
      have k5 : ¬ cap = p := by omega
      have k6 : (3 : Int) ≤ ((cap - p : Nat) : Int) := by omega
      have k7 : (6 : Int) ≤ ((cap - p : Nat) : Int) := by omega
      have j0 : (0 : Int) ≤ (p : Int) - 1 := by omega
      have j1 : (p : Int) - 1 < (l.length : Int) := by omega
      have j2 : (p : Int) ≤ (cap : Int) := by omega
      have j3 : ((p : Int) - 1).toNat = p - 1 := by omega
      have hlt1 : p - 1 < l.length := by omega
      have yl := HSW.out.at (p - 1) hlt1
      obtain ⟨c, hc⟩ : ∃ c, l[p - 1]'hlt1 = c := ⟨_, rfl⟩
      rw [hc] at yl
      have HL1 := hid (show l[p - 1]? = some c by rw [List.getElem?_eq_getElem hlt1, hc])
      rw [HL1.out] at HO
      have H32 := hid (show (¬ ([c0, c1, c2] = [49, 48, 61] ∧ (Dig c3 ∧ Dig c4 ∧ Dig c5) ∧ c6 = 1) ∨ f = p ∨ some c ≠ some 1) → outE l = ((0, 0), p, 32) from fun h => by rw [HO.out, if_pos (by rw [trailOk_iff]; exact h)])
      clear hT hc
      by_cases d3 : Dig c3
      · obtain ⟨g3a, g3b⟩ : (48 : Int) ≤ (c3.toNat : Int) ∧ (c3.toNat : Int) ≤ 57 := by have h := d3; unfold Dig at h; omega
        by_cases d4 : Dig c4
        · obtain ⟨g4a, g4b⟩ : (48 : Int) ≤ (c4.toNat : Int) ∧ (c4.toNat : Int) ≤ 57 := by have h := d4; unfold Dig at h; omega
          by_cases d5 : Dig c5
          · obtain ⟨g5a, g5b⟩ : (48 : Int) ≤ (c5.toNat : Int) ∧ (c5.toNat : Int) ≤ 57 := by have h := d5; unfold Dig at h; omega
            by_cases e10 : [c0, c1, c2] = [49, 48, 61]
            · simp only [List.cons.injEq, and_true] at e10
              obtain ⟨rfl, rfl, rfl⟩ := e10
              by_cases h6 : c6 = 1
              · subst h6
                have h61 : (((1 : UInt8).toNat : Int) != 1) = false := by decide
                by_cases hs0 : s = 0
                · have H3 := hid (H32.out (Or.inr (Or.inl (by omega))))
                  have hs1 : ((s : Int) == 0) = true := by simp; omega
                  clear H32 HO hs0
                  go_wp2_with (first | (go_at_call 60; refine (BA.out _ _ _).mono ?_; rintro e w3 ⟨rfl, hb⟩; have HB3 := hid hb; clear hb; refine Hid.out ?_))
                  have HZ3 := hid (row_on HZ2.out HB3.out)
                  have HW3 := hid (btr' HW2.out HB3.out)
                  clear HB3
                  refine Lib.hid ?_
                  go_wp2_with (first | (refine wpList_st (by rfl) 81 (.tmp 2) (.tmp 102) (by rfl) w.heap.size (ansB p 32) (by rfl) (by rfl) 81 ansZ HZ3.out info67 rfl (by simp [ansB, Value.oneCell']) ?_; intro w5 hst; have HST := hid hst; clear hst; refine Hid.out ?_))
                  refine Lib.hid ?_
                  go_wp2
                  exact bodyPost_ret (results_cell_row (fn := Tryz.f39) Tryz.results39 _ _ w.heap.size 81 (ansB p 32) (0, 0) _ (by rfl) HST.out.row Tryz.underlying81 rfl info67) rfl (HBADR.out p 32 (by decide) H3.out _ (HST.out.bel _ _ HW3.out (Nat.le_refl _)))
                · have hs1 : ((s : Int) == 0) = false := by simp; omega
                  by_cases hc1 : c = 1
                  · subst hc1
                    have hcc : (((1 : UInt8).toNat : Int) != 1) = false := by decide
                    rw [if_neg (by rintro (h | h | h); exact h ((trailOk_iff _ _ _ _ _ _ _).2 ⟨rfl, ⟨d3, d4, d5⟩, rfl⟩); omega; exact h rfl)] at HO
                    have HPA := hid (fun w' hb => parts_any l b o cap f p w' (by omega) (by omega) (by omega) hl hcap hcm (last_of HL1.out (by omega) (by omega)) (HS.out.on (show Below w.heap.size w w' from hb)))
                    have hlp : (l.take p).length = p := by simp; omega
                    have HSU := hid (fun w' hb => rsum_any (l.take p) (some ⟨b, o, none⟩) cap w' (by omega) ((HS.out.on (show Below w.heap.size w w' from hb)).take p))
                    rw [hlp] at HSU
                    have HTH := hid (fun w' => three_any (sumB (l.take p)) w' (sumB_lt _))
                    have HBR := hid (trailB_iff c3 c4 c5 (l.take p))
                    obtain ⟨D, hD⟩ : ∃ D, (decDigits (1000 + sumB (l.take p))).drop 1 = D := ⟨_, rfl⟩
                    rw [hD] at HTH HBR
                    clear H32 hs0 hD hlp d3 d4 d5
                    by_cases hsum : [c3, c4, c5] = D
                    · rw [if_neg (by simpa using HBR.out.2 hsum)] at HO
                      obtain rfl := hsum
                      obtain ⟨R, hR⟩ : ∃ R, bodyR ((l.drop f).take (p - f)) ((l.drop f).take (p - f)) 0 0 [] [] = R := ⟨_, rfl⟩
                      rw [hR] at HPA
                      have HDE := hid (show decR l = if R.2.2.2 ≠ 0 then ([], [], f + R.2.2.1, R.2.2.2) else (R.1, R.2.1, p + 7, 0) by unfold decR; rw [HO.out]; simp only [ne_eq, not_true_eq_false, if_false]; rw [hR])
                      have e3 : ((p + 7 : Nat) : Int) = (p : Int) + 7 := by omega
                      have HE3 := hid e3
                      clear hR HBR e3
                      obtain ⟨kd, tg, pl, why⟩ := R
                      simp only at HDE
                      unfold PartP at HPA
                      by_cases hw : why = 0
                      · subst hw
                        have HPO := hid (show ∀ w' (hb : Below w.heap.size w w'), Calls Tryz.prog 63 #[.slice (some ⟨b, o, none⟩) l.length cap, .int .i64 f, .int .i64 p] w' fun e w'' => ∃ v, e = .returned (.agg (ansV kd v 0 0 false 0)) ∧ OwnT w'.heap.size w' w'' v tg from fun w' hb => (HPA.out w' hb).mono (by
                          rintro e w'' ⟨_, ⟨h, _⟩ | ⟨_, h⟩⟩
                          · exact absurd rfl h
                          · exact h))
                        have HFIN := hid (show ∀ v w8, OwnT w.heap.size w w8 v tg → ReadP l w (.returned (.agg (ansV kd v ((p : Int) + 7) 0 true ((p : Int) + 7)))) w8 from fun v w8 h => by
                          have e1 : decR l = (kd, tg, p + 7, 0) := by rw [HDE.out]; simp
                          refine ⟨v, ?_, by rw [e1]; exact h⟩
                          rw [e1, HO.out]
                          simp only [decide_true, if_true, HE3.out])
                        clear HPA HDE HO HE3
                        go_wp2
                        have HDR := hid (show Below w.heap.size w (w1.alloc (.cells #[.string ⟨#[]⟩, .slice none 0 0, .int .i64 0, .int .i64 0, .bool false, .int .i64 0] 81)).drew from Below.drew HW2.out)
                        have cvd := HCV.out _ HDR.out
                        go_region_with (first | (go_at_call 62; refine (HSU.out _ HDR.out).mono ?_; rintro e w3 ⟨rfl, rfl⟩) | (go_at_call 61; refine (HTH.out _).mono ?_; rintro e w4 ⟨rfl, hb⟩; have HB4 := hid hb; clear hb; have cv4 := HCV.out _ (btr' HDR.out HB4.out)))
                        all_goals
                          replace HZ2 := hid (row_on (show (w1.alloc (.cells #[.string ⟨#[]⟩, .slice none 0 0, .int .i64 0, .int .i64 0, .bool false, .int .i64 0] 81)).drew.heap[w.heap.size]? = some (.cells ansZ 81 (0, 0)) from HZ2.out) HB4.out)
                          replace HW2 := hid (btr' HDR.out HB4.out)
                          replace HA2 := hid (row_on (show (w1.alloc (.cells #[.string ⟨#[]⟩, .slice none 0 0, .int .i64 0, .int .i64 0, .bool false, .int .i64 0] 81)).drew.heap[w1.heap.size]? = some (.cells #[.string ⟨#[]⟩, .slice none 0 0, .int .i64 0, .int .i64 0, .bool false, .int .i64 0] 81 (0, 0)) from HA2.out) HB4.out)
                          have hG4 : w1.heap.size < w4.heap.size := row_lt HA2.out
                          clear HB4 HDR cvd cv4 x0 x1 x2 x3 x4 x5 y3 y4 y5 y6 yl cv3
                          go_wp2_with (first | (go_at_call 63; refine (HPO.out _ HW2.out).mono ?_; rintro e w5 ⟨v, rfl, hO⟩; obtain ⟨qv, cv, rfl, _, _, _⟩ := hO.form; have HOO := hid hO; clear hO; refine Hid.out ?_))
                          have HA5 := hid (row_on HA2.out (HOO.out.2.1))
                          have HZ5 := hid (row_on HZ2.out (HOO.out.2.1))
                          refine Lib.hid ?_
                          go_wp2_with (first | (refine wpList_st (by rfl) 81 (.tmp 5) (.tmp 117) (by rfl) w1.heap.size (ansV kd (.slice qv tg.length cv) 0 0 false 0) (by rfl) (by rfl) 81 _ HA5.out info67 rfl (by simp [ansB, ansV, Value.oneCell']) ?_; intro w6 hst; have HS6 := hid hst; clear hst; refine Hid.out ?_))
                          obtain ⟨x0, x1, x2, x3, x4, x5⟩ := cells67 HS6.out.row
                          have f2 := frozen_of_row w6 w1.heap.size 2 _ _ HS6.out.row
                          have f4 := frozen_of_row w6 w1.heap.size 4 _ _ HS6.out.row
                          have f5 := frozen_of_row w6 w1.heap.size 5 _ _ HS6.out.row
                          have HZ7 := hid (show (((w6.setCell ⟨w1.heap.size, 4, none⟩ (.bool true)).setCell ⟨w1.heap.size, 5, none⟩ (.int .i64 ((p : Int) + 7))).setCell ⟨w1.heap.size, 2, none⟩ (.int .i64 ((p : Int) + 7))).heap[w.heap.size]? = some (.cells ansZ 81 (0, 0)) by rw [heap_setCell_other _ _ _ _ (by show w.heap.size ≠ w1.heap.size; omega), heap_setCell_other _ _ _ _ (by show w.heap.size ≠ w1.heap.size; omega), heap_setCell_other _ _ _ _ (by show w.heap.size ≠ w1.heap.size; omega), HS6.out.oth _ (by omega)]; exact HZ5.out)
                          refine Lib.hid ?_
                          go_wp2_with (first | (refine wpList_st (by rfl) 81 (.tmp 2) (.tmp 128) (by rfl) w.heap.size (ansV kd (.slice qv tg.length cv) ((p : Int) + 7) 0 true ((p : Int) + 7)) (by rfl) (by rfl) 81 ansZ HZ7.out info67 rfl (by simp [ansV, Value.oneCell']) ?_; intro w8 hst; have HST := hid hst; clear hst; refine Hid.out ?_))
                          refine Lib.hid ?_
                          go_wp2
                          exact bodyPost_ret (results_cell_row (fn := Tryz.f39) Tryz.results39 _ _ w.heap.size 81 (ansV kd (.slice qv tg.length cv) ((p : Int) + 7) 0 true ((p : Int) + 7)) (0, 0) _ (by rfl) HST.out.row Tryz.underlying81 rfl info67) rfl (HFIN.out _ _ (own_end HOO.out HW2.out hG hG4 HS6.out (fun k hk => by rw [heap_setCell_other _ _ _ _ (by show k ≠ w1.heap.size; exact hk), heap_setCell_other _ _ _ _ (by show k ≠ w1.heap.size; exact hk), heap_setCell_other _ _ _ _ (by show k ≠ w1.heap.size; exact hk)]) (by simp) (fun h => (((h).setCell (by show w.heap.size ≤ w1.heap.size; omega) _).setCell (by show w.heap.size ≤ w1.heap.size; omega) _).setCell (by show w.heap.size ≤ w1.heap.size; omega) _) HST.out))
                      · have HPO := hid (show ∀ w' (hb : Below w.heap.size w w'), Calls Tryz.prog 63 #[.slice (some ⟨b, o, none⟩) l.length cap, .int .i64 f, .int .i64 p] w' fun e w'' => e = .returned (.agg (ansB ((f + pl : Nat)) why)) ∧ OwnT w'.heap.size w' w'' (.slice none 0 0) [] from fun w' hb => (HPA.out w' hb).mono (by
                          rintro e w'' ⟨hb2, ⟨_, h⟩ | ⟨h, _⟩⟩
                          · exact ⟨h, ownT_nilB hb2⟩
                          · exact absurd h hw))
                        have HFIN := hid (show ∀ v w8, OwnT w.heap.size w w8 v [] → ReadP l w (.returned (.agg (ansV [] v ((f + pl : Nat) : Int) why true ((p : Int) + 7)))) w8 from fun v w8 h => by
                          have e1 : decR l = ([], [], f + pl, why) := by rw [HDE.out, if_pos hw]
                          refine ⟨v, ?_, by rw [e1]; exact h⟩
                          rw [e1, HO.out]
                          simp only [decide_true, if_true, HE3.out])
                        have hwb : (why == 0) = false := by simpa using hw
                        clear HPA HDE HO HE3 hw
                        go_wp2
                        have HDR := hid (show Below w.heap.size w (w1.alloc (.cells #[.string ⟨#[]⟩, .slice none 0 0, .int .i64 0, .int .i64 0, .bool false, .int .i64 0] 81)).drew from Below.drew HW2.out)
                        have cvd := HCV.out _ HDR.out
                        go_region_with (first | (go_at_call 62; refine (HSU.out _ HDR.out).mono ?_; rintro e w3 ⟨rfl, rfl⟩) | (go_at_call 61; refine (HTH.out _).mono ?_; rintro e w4 ⟨rfl, hb⟩; have HB4 := hid hb; clear hb; have cv4 := HCV.out _ (btr' HDR.out HB4.out)))
                        all_goals
                          replace HZ2 := hid (row_on (show (w1.alloc (.cells #[.string ⟨#[]⟩, .slice none 0 0, .int .i64 0, .int .i64 0, .bool false, .int .i64 0] 81)).drew.heap[w.heap.size]? = some (.cells ansZ 81 (0, 0)) from HZ2.out) HB4.out)
                          replace HW2 := hid (btr' HDR.out HB4.out)
                          replace HA2 := hid (row_on (show (w1.alloc (.cells #[.string ⟨#[]⟩, .slice none 0 0, .int .i64 0, .int .i64 0, .bool false, .int .i64 0] 81)).drew.heap[w1.heap.size]? = some (.cells #[.string ⟨#[]⟩, .slice none 0 0, .int .i64 0, .int .i64 0, .bool false, .int .i64 0] 81 (0, 0)) from HA2.out) HB4.out)
                          have hG4 : w1.heap.size < w4.heap.size := row_lt HA2.out
                          clear HB4 HDR cvd cv4 x0 x1 x2 x3 x4 x5 y3 y4 y5 y6 yl cv3
                          go_wp2_with (first | (go_at_call 63; refine (HPO.out _ HW2.out).mono ?_; rintro e w5 ⟨rfl, hO⟩; have HOO := hid hO; clear hO; refine Hid.out ?_))
                          have HA5 := hid (row_on HA2.out (HOO.out.2.1))
                          have HZ5 := hid (row_on HZ2.out (HOO.out.2.1))
                          refine Lib.hid ?_
                          go_wp2_with (first | (refine wpList_st (by rfl) 81 (.tmp 5) (.tmp 117) (by rfl) w1.heap.size (ansB ((f + pl : Nat)) why) (by rfl) (by rfl) 81 _ HA5.out info67 rfl (by simp [ansB, ansV, Value.oneCell']) ?_; intro w6 hst; have HS6 := hid hst; clear hst; refine Hid.out ?_))
                          obtain ⟨x0, x1, x2, x3, x4, x5⟩ := cells67 HS6.out.row
                          have f2 := frozen_of_row w6 w1.heap.size 2 _ _ HS6.out.row
                          have f4 := frozen_of_row w6 w1.heap.size 4 _ _ HS6.out.row
                          have f5 := frozen_of_row w6 w1.heap.size 5 _ _ HS6.out.row
                          have HZ7 := hid (show ((w6.setCell ⟨w1.heap.size, 4, none⟩ (.bool true)).setCell ⟨w1.heap.size, 5, none⟩ (.int .i64 ((p : Int) + 7))).heap[w.heap.size]? = some (.cells ansZ 81 (0, 0)) by rw [heap_setCell_other _ _ _ _ (by show w.heap.size ≠ w1.heap.size; omega), heap_setCell_other _ _ _ _ (by show w.heap.size ≠ w1.heap.size; omega), HS6.out.oth _ (by omega)]; exact HZ5.out)
                          refine Lib.hid ?_
                          go_wp2_with (first | (refine wpList_st (by rfl) 81 (.tmp 2) (.tmp 128) (by rfl) w.heap.size (ansV [] (.slice none 0 0) ((f + pl : Nat) : Int) why true ((p : Int) + 7)) (by rfl) (by rfl) 81 ansZ HZ7.out info67 rfl (by simp [ansV, Value.oneCell']) ?_; intro w8 hst; have HST := hid hst; clear hst; refine Hid.out ?_))
                          refine Lib.hid ?_
                          go_wp2
                          exact bodyPost_ret (results_cell_row (fn := Tryz.f39) Tryz.results39 _ _ w.heap.size 81 (ansV [] (.slice none 0 0) ((f + pl : Nat) : Int) why true ((p : Int) + 7)) (0, 0) _ (by rfl) HST.out.row Tryz.underlying81 rfl info67) rfl (HFIN.out _ _ (own_end HOO.out HW2.out hG hG4 HS6.out (fun k hk => by rw [heap_setCell_other _ _ _ _ (by show k ≠ w1.heap.size; exact hk), heap_setCell_other _ _ _ _ (by show k ≠ w1.heap.size; exact hk)]) (by simp) (fun h => ((h).setCell (by show w.heap.size ≤ w1.heap.size; omega) _).setCell (by show w.heap.size ≤ w1.heap.size; omega) _) HST.out))
                    · rw [if_pos (fun h => hsum (HBR.out.1 h))] at HO
                      have hsn : ([c3, c4, c5] == D) = false := by simpa using hsum
                      clear hsum HPA HBR
                      go_wp2
                      have HDR := hid (show Below w.heap.size w (w1.alloc (.cells #[.string ⟨#[]⟩, .slice none 0 0, .int .i64 0, .int .i64 0, .bool false, .int .i64 0] 81)).drew from Below.drew HW2.out)
                      have cvd := HCV.out _ HDR.out
                      go_region_with (first | (go_at_call 62; refine (HSU.out _ HDR.out).mono ?_; rintro e w3 ⟨rfl, rfl⟩) | (go_at_call 61; refine (HTH.out _).mono ?_; rintro e w4 ⟨rfl, hb⟩; have HB4 := hid hb; clear hb; have cv4 := HCV.out _ (btr' HDR.out HB4.out)))
                      all_goals
                        replace HZ2 := hid (row_on (show (w1.alloc (.cells #[.string ⟨#[]⟩, .slice none 0 0, .int .i64 0, .int .i64 0, .bool false, .int .i64 0] 81)).drew.heap[w.heap.size]? = some (.cells ansZ 81 (0, 0)) from HZ2.out) HB4.out)
                        replace HW2 := hid (btr' HDR.out HB4.out)
                        clear HB4 HDR
                        go_wp2_with (first | (go_at_call 60; refine (BA.out _ _ _).mono ?_; rintro e w3 ⟨rfl, hb⟩; have HB3 := hid hb; clear hb; refine Hid.out ?_))
                        have HZ3 := hid (row_on HZ2.out HB3.out)
                        have HW3 := hid (btr' HW2.out HB3.out)
                        clear HB3
                        refine Lib.hid ?_
                        go_wp2_with (first | (refine wpList_st (by rfl) 81 (.tmp 2) (.tmp 113) (by rfl) w.heap.size (ansB p 33) (by rfl) (by rfl) 81 ansZ HZ3.out info67 rfl (by simp [ansB, Value.oneCell']) ?_; intro w5 hst; have HST := hid hst; clear hst; refine Hid.out ?_))
                        refine Lib.hid ?_
                        go_wp2
                        exact bodyPost_ret (results_cell_row (fn := Tryz.f39) Tryz.results39 _ _ w.heap.size 81 (ansB p 33) (0, 0) _ (by rfl) HST.out.row Tryz.underlying81 rfl info67) rfl (HBADR.out p 33 (by decide) HO.out _ (HST.out.bel _ _ HW3.out (Nat.le_refl _)))
                  · have H3 := hid (H32.out (Or.inr (Or.inr (by simpa using hc1))))
                    have hcc : ((c.toNat : Int) != 1) = true := by
                      simp
                      intro e
                      exact hc1 (UInt8.toNat_inj.1 (by simp; omega))
                    clear H32 HO hc1
                    go_wp2_with (first | (go_at_call 60; refine (BA.out _ _ _).mono ?_; rintro e w3 ⟨rfl, hb⟩; have HB3 := hid hb; clear hb; refine Hid.out ?_))
                    have HZ3 := hid (row_on HZ2.out HB3.out)
                    have HW3 := hid (btr' HW2.out HB3.out)
                    clear HB3
                    refine Lib.hid ?_
                    go_wp2_with (first | (refine wpList_st (by rfl) 81 (.tmp 2) (.tmp 102) (by rfl) w.heap.size (ansB p 32) (by rfl) (by rfl) 81 ansZ HZ3.out info67 rfl (by simp [ansB, Value.oneCell']) ?_; intro w5 hst; have HST := hid hst; clear hst; refine Hid.out ?_))
                    refine Lib.hid ?_
                    go_wp2
                    exact bodyPost_ret (results_cell_row (fn := Tryz.f39) Tryz.results39 _ _ w.heap.size 81 (ansB p 32) (0, 0) _ (by rfl) HST.out.row Tryz.underlying81 rfl info67) rfl (HBADR.out p 32 (by decide) H3.out _ (HST.out.bel _ _ HW3.out (Nat.le_refl _)))
              · have H3 := hid (H32.out (Or.inl (fun h => h6 h.2.2)))
                have h61 : ((c6.toNat : Int) != 1) = true := by
                  simp
                  intro e
                  exact h6 (UInt8.toNat_inj.1 (by simp; omega))
                clear H32 HO h6
                go_wp2_with (first | (go_at_call 60; refine (BA.out _ _ _).mono ?_; rintro e w3 ⟨rfl, hb⟩; have HB3 := hid hb; clear hb; refine Hid.out ?_))
                have HZ3 := hid (row_on HZ2.out HB3.out)
                have HW3 := hid (btr' HW2.out HB3.out)
                clear HB3
                refine Lib.hid ?_
                go_wp2_with (first | (refine wpList_st (by rfl) 81 (.tmp 2) (.tmp 102) (by rfl) w.heap.size (ansB p 32) (by rfl) (by rfl) 81 ansZ HZ3.out info67 rfl (by simp [ansB, Value.oneCell']) ?_; intro w5 hst; have HST := hid hst; clear hst; refine Hid.out ?_))
                refine Lib.hid ?_
                go_wp2
                exact bodyPost_ret (results_cell_row (fn := Tryz.f39) Tryz.results39 _ _ w.heap.size 81 (ansB p 32) (0, 0) _ (by rfl) HST.out.row Tryz.underlying81 rfl info67) rfl (HBADR.out p 32 (by decide) H3.out _ (HST.out.bel _ _ HW3.out (Nat.le_refl _)))
            · have H3 := hid (H32.out (Or.inl (fun h => e10 h.1)))
              have e11 : ([c0, c1, c2] == [49, 48, 61]) = false := by simpa using e10
              clear H32 HO e10
              go_wp2_with (first | (go_at_call 60; refine (BA.out _ _ _).mono ?_; rintro e w3 ⟨rfl, hb⟩; have HB3 := hid hb; clear hb; refine Hid.out ?_))
              have HZ3 := hid (row_on HZ2.out HB3.out)
              have HW3 := hid (btr' HW2.out HB3.out)
              clear HB3
              refine Lib.hid ?_
              go_wp2_with (first | (refine wpList_st (by rfl) 81 (.tmp 2) (.tmp 102) (by rfl) w.heap.size (ansB p 32) (by rfl) (by rfl) 81 ansZ HZ3.out info67 rfl (by simp [ansB, Value.oneCell']) ?_; intro w5 hst; have HST := hid hst; clear hst; refine Hid.out ?_))
              refine Lib.hid ?_
              go_wp2
              exact bodyPost_ret (results_cell_row (fn := Tryz.f39) Tryz.results39 _ _ w.heap.size 81 (ansB p 32) (0, 0) _ (by rfl) HST.out.row Tryz.underlying81 rfl info67) rfl (HBADR.out p 32 (by decide) H3.out _ (HST.out.bel _ _ HW3.out (Nat.le_refl _)))
          · skip
            obtain hg | ⟨hg1, hg2⟩ : (c5.toNat : Int) < 48 ∨ ((48 : Int) ≤ (c5.toNat : Int) ∧ (57 : Int) < (c5.toNat : Int)) := by unfold Dig at d5; omega
            · have hg3 : ¬ ((48 : Int) ≤ (c5.toNat : Int)) := by omega
              have H3 := hid (H32.out (Or.inl (fun h => d5 h.2.1.2.2)))
              by_cases e10 : [c0, c1, c2] = [49, 48, 61]
              · simp only [List.cons.injEq, and_true] at e10
                obtain ⟨rfl, rfl, rfl⟩ := e10
                clear H32 HO d5
                go_wp2_with (first | (go_at_call 60; refine (BA.out _ _ _).mono ?_; rintro e w3 ⟨rfl, hb⟩; have HB3 := hid hb; clear hb; refine Hid.out ?_))
                have HZ3 := hid (row_on HZ2.out HB3.out)
                have HW3 := hid (btr' HW2.out HB3.out)
                clear HB3
                refine Lib.hid ?_
                go_wp2_with (first | (refine wpList_st (by rfl) 81 (.tmp 2) (.tmp 102) (by rfl) w.heap.size (ansB p 32) (by rfl) (by rfl) 81 ansZ HZ3.out info67 rfl (by simp [ansB, Value.oneCell']) ?_; intro w5 hst; have HST := hid hst; clear hst; refine Hid.out ?_))
                refine Lib.hid ?_
                go_wp2
                exact bodyPost_ret (results_cell_row (fn := Tryz.f39) Tryz.results39 _ _ w.heap.size 81 (ansB p 32) (0, 0) _ (by rfl) HST.out.row Tryz.underlying81 rfl info67) rfl (HBADR.out p 32 (by decide) H3.out _ (HST.out.bel _ _ HW3.out (Nat.le_refl _)))
              · have e11 : ([c0, c1, c2] == [49, 48, 61]) = false := by simpa using e10
                clear H32 HO d5 e10
                go_wp2_with (first | (go_at_call 60; refine (BA.out _ _ _).mono ?_; rintro e w3 ⟨rfl, hb⟩; have HB3 := hid hb; clear hb; refine Hid.out ?_))
                have HZ3 := hid (row_on HZ2.out HB3.out)
                have HW3 := hid (btr' HW2.out HB3.out)
                clear HB3
                refine Lib.hid ?_
                go_wp2_with (first | (refine wpList_st (by rfl) 81 (.tmp 2) (.tmp 102) (by rfl) w.heap.size (ansB p 32) (by rfl) (by rfl) 81 ansZ HZ3.out info67 rfl (by simp [ansB, Value.oneCell']) ?_; intro w5 hst; have HST := hid hst; clear hst; refine Hid.out ?_))
                refine Lib.hid ?_
                go_wp2
                exact bodyPost_ret (results_cell_row (fn := Tryz.f39) Tryz.results39 _ _ w.heap.size 81 (ansB p 32) (0, 0) _ (by rfl) HST.out.row Tryz.underlying81 rfl info67) rfl (HBADR.out p 32 (by decide) H3.out _ (HST.out.bel _ _ HW3.out (Nat.le_refl _)))
            · have hg3 : ¬ ((c5.toNat : Int) ≤ 57) := by omega
              have H3 := hid (H32.out (Or.inl (fun h => d5 h.2.1.2.2)))
              by_cases e10 : [c0, c1, c2] = [49, 48, 61]
              · simp only [List.cons.injEq, and_true] at e10
                obtain ⟨rfl, rfl, rfl⟩ := e10
                clear H32 HO d5
                go_wp2_with (first | (go_at_call 60; refine (BA.out _ _ _).mono ?_; rintro e w3 ⟨rfl, hb⟩; have HB3 := hid hb; clear hb; refine Hid.out ?_))
                have HZ3 := hid (row_on HZ2.out HB3.out)
                have HW3 := hid (btr' HW2.out HB3.out)
                clear HB3
                refine Lib.hid ?_
                go_wp2_with (first | (refine wpList_st (by rfl) 81 (.tmp 2) (.tmp 102) (by rfl) w.heap.size (ansB p 32) (by rfl) (by rfl) 81 ansZ HZ3.out info67 rfl (by simp [ansB, Value.oneCell']) ?_; intro w5 hst; have HST := hid hst; clear hst; refine Hid.out ?_))
                refine Lib.hid ?_
                go_wp2
                exact bodyPost_ret (results_cell_row (fn := Tryz.f39) Tryz.results39 _ _ w.heap.size 81 (ansB p 32) (0, 0) _ (by rfl) HST.out.row Tryz.underlying81 rfl info67) rfl (HBADR.out p 32 (by decide) H3.out _ (HST.out.bel _ _ HW3.out (Nat.le_refl _)))
              · have e11 : ([c0, c1, c2] == [49, 48, 61]) = false := by simpa using e10
                clear H32 HO d5 e10
                go_wp2_with (first | (go_at_call 60; refine (BA.out _ _ _).mono ?_; rintro e w3 ⟨rfl, hb⟩; have HB3 := hid hb; clear hb; refine Hid.out ?_))
                have HZ3 := hid (row_on HZ2.out HB3.out)
                have HW3 := hid (btr' HW2.out HB3.out)
                clear HB3
                refine Lib.hid ?_
                go_wp2_with (first | (refine wpList_st (by rfl) 81 (.tmp 2) (.tmp 102) (by rfl) w.heap.size (ansB p 32) (by rfl) (by rfl) 81 ansZ HZ3.out info67 rfl (by simp [ansB, Value.oneCell']) ?_; intro w5 hst; have HST := hid hst; clear hst; refine Hid.out ?_))
                refine Lib.hid ?_
                go_wp2
                exact bodyPost_ret (results_cell_row (fn := Tryz.f39) Tryz.results39 _ _ w.heap.size 81 (ansB p 32) (0, 0) _ (by rfl) HST.out.row Tryz.underlying81 rfl info67) rfl (HBADR.out p 32 (by decide) H3.out _ (HST.out.bel _ _ HW3.out (Nat.le_refl _)))
        · skip
          obtain hg | ⟨hg1, hg2⟩ : (c4.toNat : Int) < 48 ∨ ((48 : Int) ≤ (c4.toNat : Int) ∧ (57 : Int) < (c4.toNat : Int)) := by unfold Dig at d4; omega
          · have hg3 : ¬ ((48 : Int) ≤ (c4.toNat : Int)) := by omega
            have H3 := hid (H32.out (Or.inl (fun h => d4 h.2.1.2.1)))
            by_cases e10 : [c0, c1, c2] = [49, 48, 61]
            · simp only [List.cons.injEq, and_true] at e10
              obtain ⟨rfl, rfl, rfl⟩ := e10
              clear H32 HO d4
              go_wp2_with (first | (go_at_call 60; refine (BA.out _ _ _).mono ?_; rintro e w3 ⟨rfl, hb⟩; have HB3 := hid hb; clear hb; refine Hid.out ?_))
              have HZ3 := hid (row_on HZ2.out HB3.out)
              have HW3 := hid (btr' HW2.out HB3.out)
              clear HB3
              refine Lib.hid ?_
              go_wp2_with (first | (refine wpList_st (by rfl) 81 (.tmp 2) (.tmp 102) (by rfl) w.heap.size (ansB p 32) (by rfl) (by rfl) 81 ansZ HZ3.out info67 rfl (by simp [ansB, Value.oneCell']) ?_; intro w5 hst; have HST := hid hst; clear hst; refine Hid.out ?_))
              refine Lib.hid ?_
              go_wp2
              exact bodyPost_ret (results_cell_row (fn := Tryz.f39) Tryz.results39 _ _ w.heap.size 81 (ansB p 32) (0, 0) _ (by rfl) HST.out.row Tryz.underlying81 rfl info67) rfl (HBADR.out p 32 (by decide) H3.out _ (HST.out.bel _ _ HW3.out (Nat.le_refl _)))
            · have e11 : ([c0, c1, c2] == [49, 48, 61]) = false := by simpa using e10
              clear H32 HO d4 e10
              go_wp2_with (first | (go_at_call 60; refine (BA.out _ _ _).mono ?_; rintro e w3 ⟨rfl, hb⟩; have HB3 := hid hb; clear hb; refine Hid.out ?_))
              have HZ3 := hid (row_on HZ2.out HB3.out)
              have HW3 := hid (btr' HW2.out HB3.out)
              clear HB3
              refine Lib.hid ?_
              go_wp2_with (first | (refine wpList_st (by rfl) 81 (.tmp 2) (.tmp 102) (by rfl) w.heap.size (ansB p 32) (by rfl) (by rfl) 81 ansZ HZ3.out info67 rfl (by simp [ansB, Value.oneCell']) ?_; intro w5 hst; have HST := hid hst; clear hst; refine Hid.out ?_))
              refine Lib.hid ?_
              go_wp2
              exact bodyPost_ret (results_cell_row (fn := Tryz.f39) Tryz.results39 _ _ w.heap.size 81 (ansB p 32) (0, 0) _ (by rfl) HST.out.row Tryz.underlying81 rfl info67) rfl (HBADR.out p 32 (by decide) H3.out _ (HST.out.bel _ _ HW3.out (Nat.le_refl _)))
          · have hg3 : ¬ ((c4.toNat : Int) ≤ 57) := by omega
            have H3 := hid (H32.out (Or.inl (fun h => d4 h.2.1.2.1)))
            by_cases e10 : [c0, c1, c2] = [49, 48, 61]
            · simp only [List.cons.injEq, and_true] at e10
              obtain ⟨rfl, rfl, rfl⟩ := e10
              clear H32 HO d4
              go_wp2_with (first | (go_at_call 60; refine (BA.out _ _ _).mono ?_; rintro e w3 ⟨rfl, hb⟩; have HB3 := hid hb; clear hb; refine Hid.out ?_))
              have HZ3 := hid (row_on HZ2.out HB3.out)
              have HW3 := hid (btr' HW2.out HB3.out)
              clear HB3
              refine Lib.hid ?_
              go_wp2_with (first | (refine wpList_st (by rfl) 81 (.tmp 2) (.tmp 102) (by rfl) w.heap.size (ansB p 32) (by rfl) (by rfl) 81 ansZ HZ3.out info67 rfl (by simp [ansB, Value.oneCell']) ?_; intro w5 hst; have HST := hid hst; clear hst; refine Hid.out ?_))
              refine Lib.hid ?_
              go_wp2
              exact bodyPost_ret (results_cell_row (fn := Tryz.f39) Tryz.results39 _ _ w.heap.size 81 (ansB p 32) (0, 0) _ (by rfl) HST.out.row Tryz.underlying81 rfl info67) rfl (HBADR.out p 32 (by decide) H3.out _ (HST.out.bel _ _ HW3.out (Nat.le_refl _)))
            · have e11 : ([c0, c1, c2] == [49, 48, 61]) = false := by simpa using e10
              clear H32 HO d4 e10
              go_wp2_with (first | (go_at_call 60; refine (BA.out _ _ _).mono ?_; rintro e w3 ⟨rfl, hb⟩; have HB3 := hid hb; clear hb; refine Hid.out ?_))
              have HZ3 := hid (row_on HZ2.out HB3.out)
              have HW3 := hid (btr' HW2.out HB3.out)
              clear HB3
              refine Lib.hid ?_
              go_wp2_with (first | (refine wpList_st (by rfl) 81 (.tmp 2) (.tmp 102) (by rfl) w.heap.size (ansB p 32) (by rfl) (by rfl) 81 ansZ HZ3.out info67 rfl (by simp [ansB, Value.oneCell']) ?_; intro w5 hst; have HST := hid hst; clear hst; refine Hid.out ?_))
              refine Lib.hid ?_
              go_wp2
              exact bodyPost_ret (results_cell_row (fn := Tryz.f39) Tryz.results39 _ _ w.heap.size 81 (ansB p 32) (0, 0) _ (by rfl) HST.out.row Tryz.underlying81 rfl info67) rfl (HBADR.out p 32 (by decide) H3.out _ (HST.out.bel _ _ HW3.out (Nat.le_refl _)))
      · skip
        obtain hg | ⟨hg1, hg2⟩ : (c3.toNat : Int) < 48 ∨ ((48 : Int) ≤ (c3.toNat : Int) ∧ (57 : Int) < (c3.toNat : Int)) := by unfold Dig at d3; omega
        · have hg3 : ¬ ((48 : Int) ≤ (c3.toNat : Int)) := by omega
          have H3 := hid (H32.out (Or.inl (fun h => d3 h.2.1.1)))
          by_cases e10 : [c0, c1, c2] = [49, 48, 61]
          · simp only [List.cons.injEq, and_true] at e10
            obtain ⟨rfl, rfl, rfl⟩ := e10
            clear H32 HO d3
            go_wp2_with (first | (go_at_call 60; refine (BA.out _ _ _).mono ?_; rintro e w3 ⟨rfl, hb⟩; have HB3 := hid hb; clear hb; refine Hid.out ?_))
            have HZ3 := hid (row_on HZ2.out HB3.out)
            have HW3 := hid (btr' HW2.out HB3.out)
            clear HB3
            refine Lib.hid ?_
            go_wp2_with (first | (refine wpList_st (by rfl) 81 (.tmp 2) (.tmp 102) (by rfl) w.heap.size (ansB p 32) (by rfl) (by rfl) 81 ansZ HZ3.out info67 rfl (by simp [ansB, Value.oneCell']) ?_; intro w5 hst; have HST := hid hst; clear hst; refine Hid.out ?_))
            refine Lib.hid ?_
            go_wp2
            exact bodyPost_ret (results_cell_row (fn := Tryz.f39) Tryz.results39 _ _ w.heap.size 81 (ansB p 32) (0, 0) _ (by rfl) HST.out.row Tryz.underlying81 rfl info67) rfl (HBADR.out p 32 (by decide) H3.out _ (HST.out.bel _ _ HW3.out (Nat.le_refl _)))
          · have e11 : ([c0, c1, c2] == [49, 48, 61]) = false := by simpa using e10
            clear H32 HO d3 e10
            go_wp2_with (first | (go_at_call 60; refine (BA.out _ _ _).mono ?_; rintro e w3 ⟨rfl, hb⟩; have HB3 := hid hb; clear hb; refine Hid.out ?_))
            have HZ3 := hid (row_on HZ2.out HB3.out)
            have HW3 := hid (btr' HW2.out HB3.out)
            clear HB3
            refine Lib.hid ?_
            go_wp2_with (first | (refine wpList_st (by rfl) 81 (.tmp 2) (.tmp 102) (by rfl) w.heap.size (ansB p 32) (by rfl) (by rfl) 81 ansZ HZ3.out info67 rfl (by simp [ansB, Value.oneCell']) ?_; intro w5 hst; have HST := hid hst; clear hst; refine Hid.out ?_))
            refine Lib.hid ?_
            go_wp2
            exact bodyPost_ret (results_cell_row (fn := Tryz.f39) Tryz.results39 _ _ w.heap.size 81 (ansB p 32) (0, 0) _ (by rfl) HST.out.row Tryz.underlying81 rfl info67) rfl (HBADR.out p 32 (by decide) H3.out _ (HST.out.bel _ _ HW3.out (Nat.le_refl _)))
        · have hg3 : ¬ ((c3.toNat : Int) ≤ 57) := by omega
          have H3 := hid (H32.out (Or.inl (fun h => d3 h.2.1.1)))
          by_cases e10 : [c0, c1, c2] = [49, 48, 61]
          · simp only [List.cons.injEq, and_true] at e10
            obtain ⟨rfl, rfl, rfl⟩ := e10
            clear H32 HO d3
            go_wp2_with (first | (go_at_call 60; refine (BA.out _ _ _).mono ?_; rintro e w3 ⟨rfl, hb⟩; have HB3 := hid hb; clear hb; refine Hid.out ?_))
            have HZ3 := hid (row_on HZ2.out HB3.out)
            have HW3 := hid (btr' HW2.out HB3.out)
            clear HB3
            refine Lib.hid ?_
            go_wp2_with (first | (refine wpList_st (by rfl) 81 (.tmp 2) (.tmp 102) (by rfl) w.heap.size (ansB p 32) (by rfl) (by rfl) 81 ansZ HZ3.out info67 rfl (by simp [ansB, Value.oneCell']) ?_; intro w5 hst; have HST := hid hst; clear hst; refine Hid.out ?_))
            refine Lib.hid ?_
            go_wp2
            exact bodyPost_ret (results_cell_row (fn := Tryz.f39) Tryz.results39 _ _ w.heap.size 81 (ansB p 32) (0, 0) _ (by rfl) HST.out.row Tryz.underlying81 rfl info67) rfl (HBADR.out p 32 (by decide) H3.out _ (HST.out.bel _ _ HW3.out (Nat.le_refl _)))
          · have e11 : ([c0, c1, c2] == [49, 48, 61]) = false := by simpa using e10
            clear H32 HO d3 e10
            go_wp2_with (first | (go_at_call 60; refine (BA.out _ _ _).mono ?_; rintro e w3 ⟨rfl, hb⟩; have HB3 := hid hb; clear hb; refine Hid.out ?_))
            have HZ3 := hid (row_on HZ2.out HB3.out)
            have HW3 := hid (btr' HW2.out HB3.out)
            clear HB3
            refine Lib.hid ?_
            go_wp2_with (first | (refine wpList_st (by rfl) 81 (.tmp 2) (.tmp 102) (by rfl) w.heap.size (ansB p 32) (by rfl) (by rfl) 81 ansZ HZ3.out info67 rfl (by simp [ansB, Value.oneCell']) ?_; intro w5 hst; have HST := hid hst; clear hst; refine Hid.out ?_))
            refine Lib.hid ?_
            go_wp2
            exact bodyPost_ret (results_cell_row (fn := Tryz.f39) Tryz.results39 _ _ w.heap.size 81 (ansB p 32) (0, 0) _ (by rfl) HST.out.row Tryz.underlying81 rfl info67) rfl (HBADR.out p 32 (by decide) H3.out _ (HST.out.bel _ _ HW3.out (Nat.le_refl _)))
end Go.Proofs.YtjgjoohdocjpkaaGreatDoor
