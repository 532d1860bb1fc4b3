/-
  The document's parts.
-/
import Derived.Test.YtolabllgnfpfaaaDoorTzB
namespace Go.Proofs.YtolabllgnfpfaaaDoor
open Go.RowKit Go.Deep Go.Lib Go.Shelf Go.Sort
set_option linter.unusedVariables false

def PartP (F : Nat) (R : List UInt8 × List (Int × List UInt8) × Nat × Int) (w : World) (e : Ending) (w' : World) : Prop :=
  Below w.heap.size w w' ∧ ((R.2.2.2 ≠ 0 ∧ e = .returned (.agg (ansB ((F + R.2.2.1 : Nat)) R.2.2.2))) ∨ (R.2.2.2 = 0 ∧ ∃ v, e = .returned (.agg (ansV R.1 v 0 0 false 0)) ∧ OwnT w.heap.size w w' v R.2.1))
structure PaR (w : World) (F : Nat) (body l : List UInt8) (b o g : Nat) (kind : List UInt8) (tags : List (Int × List UInt8)) (v : Value) (wr : World) : Prop where
  z : wr.heap[w.heap.size]? = some (.cells ansZ 61 (0, 0))
  a : wr.heap[w.heap.size + 1]? = some (.cells (ansV kind v 0 0 false 0) 61 (0, 0))
  ow : OwnT (w.heap.size + 2) wr wr v tags
  s : Sb wr (some ⟨b, o, none⟩) l
  bel : Below w.heap.size w wr
  eq : bodyR body body 0 0 [] [] = bodyR body (body.drop g) g g kind tags
  z0 : g = 0 → kind = [] ∧ tags = []
  len : tags.length ≤ 64
theorem seg_at (l : List UInt8) (F T P : Nat) (seg rest : List UInt8) (hF : F ≤ P) (hT : T ≤ l.length) (hR : ((l.drop F).take (T - F)).drop (P - F) = seg ++ 1 :: rest) : P + seg.length < T ∧ l.drop P = seg ++ 1 :: (rest ++ l.drop T) := by
  have hlen := congrArg List.length hR
  simp at hlen
  have h1 : P + seg.length < T := by omega
  refine ⟨h1, ?_⟩
  have e1 : l.drop P = ((l.drop F).drop (P - F)) := by rw [List.drop_drop]; congr 1; omega
  have e2 : (l.drop F).drop (P - F) = (((l.drop F).take (T - F)).drop (P - F)) ++ l.drop T := by
    conv => lhs; rw [← List.take_append_drop (T - F) (l.drop F)]
    rw [List.drop_append_of_le_length (by simp; omega), List.drop_drop]
    congr 2
    omega
  rw [e1, e2, hR]
  simp
theorem at_seg {l : List UInt8} {P : Nat} {s : List UInt8} (h : l.drop P = s) (k : Nat) (hk : k < s.length) (hl : P + k < l.length) : l[P + k] = s[k] := by
  subst h
  simp
theorem OwnT.low {B B' : Nat} {W0 W1 w : World} {v : Value} {l : List (Int × List UInt8)} (h : OwnT B W0 w v l) (hB : B' ≤ B) (hb : Below B' W1 w) : OwnT B' W1 w v l := by
  obtain ⟨⟨h1, h2⟩, h3, h4⟩ := h
  refine ⟨⟨h1, ?_⟩, hb, by omega⟩
  rcases h2 with h2 | ⟨g, cap, cur, e, hg0, hg, r⟩
  · exact Or.inl h2
  · exact Or.inr ⟨g, cap, cur, e, by omega, hg, r⟩
theorem OwnT.same {B B' : Nat} {W0 W1 w w' : World} {v : Value} {l : List (Int × List UInt8)} (h : OwnT B W0 w v l) (hB : B' ≤ B) (ho : ∀ k, B ≤ k → w'.heap[k]? = w.heap[k]?) (hs : w'.heap.size = w.heap.size) (hb : Below B' W1 w') : OwnT B' W1 w' v l := by
  obtain ⟨⟨h1, h2⟩, h3, h4⟩ := h
  refine ⟨⟨h1, ?_⟩, hb, by omega⟩
  rcases h2 with h2 | ⟨g, cap, cur, e, hg0, hg, r⟩
  · exact Or.inl h2
  · exact Or.inr ⟨g, cap, cur, e, by omega, by rw [ho g hg0]; exact hg, r⟩
/-- one field is taken: a cell of the answer is written. -/
theorem PaR.put {w : World} {F : Nat} {body l : List UInt8} {b o g g' : Nat} {kind kind' : List UInt8} {tags tags' : List (Int × List UInt8)} {v v' : Value} {wr w3 : World} (h : PaR w F body l b o g kind tags v wr) (hS : Sb w (some ⟨b, o, none⟩) l)
    (hb : Below (w.heap.size + 2) wr w3) (hO : OwnT (w.heap.size + 2) wr w3 v' tags') (j : Nat) (u : Value) (hu : (ansV kind v 0 0 false 0).setIfInBounds j u = ansV kind' v' 0 0 false 0)
    (heq : bodyR body (body.drop g) g g kind tags = bodyR body (body.drop g') g' g' kind' tags') (hz : g' ≠ 0) (hl : tags'.length ≤ 64) :
    PaR w F body l b o g' kind' tags' v' (w3.setCell ⟨w.heap.size + 1, j, none⟩ u) := by
  have ha : w3.heap[w.heap.size + 1]? = some (.cells (ansV kind v 0 0 false 0) 61 (0, 0)) := by rw [hb.block _ (by omega)]; exact h.a
  have hz3 : w3.heap[w.heap.size]? = some (.cells ansZ 61 (0, 0)) := by rw [hb.block _ (by omega)]; exact h.z
  have hbel : Below w.heap.size w (w3.setCell ⟨w.heap.size + 1, j, none⟩ u) := (h.bel.trans (hb.mono (by omega))).setCell (by show w.heap.size ≤ w.heap.size + 1; omega) _
  refine ⟨?_, ?_, ?_, hS.on hbel, hbel, h.eq.trans heq, fun e => absurd e hz, hl⟩
  · rw [heap_setCell_other _ _ _ _ (by show w.heap.size ≠ w.heap.size + 1; omega)]; exact hz3
  · rw [heap_setCell_same w3 _ j _ 61 _ ha, hu]
  · exact hO.same (Nat.le_refl _) (fun k hk => heap_setCell_other _ _ _ _ (by show k ≠ w.heap.size + 1; omega)) (by simp) (Below.refl _ _)
set_option maxHeartbeats 4000000 in
set_option maxRecDepth 100000 in
theorem parts_any (l : List UInt8) (b o cap F T : Nat) (w : World) (hFT : F < T) (hT : T ≤ l.length) (hT2 : T ≤ 5000) (hll : l.length < 4611686018427387904) (hcap : l.length ≤ cap) (hcm : cap < 9223372036854775808) (hlast : ((l.drop F).take (T - F)).getLast? = some 1) (hS : Sb w (some ⟨b, o, none⟩) l) :
    Calls Tryd.prog 38 #[.slice (some ⟨b, o, none⟩) l.length cap, .int .i64 F, .int .i64 T] w fun e w' => PartP F (bodyR ((l.drop F).take (T - F)) ((l.drop F).take (T - F)) 0 0 [] []) w e w' := by
  have BA := hid bad_any
  have hbl : ((l.drop F).take (T - F)).length = T - F := by simp; omega
  have HBD := hid (show ∀ P, F ≤ P → ∀ seg rest, ((l.drop F).take (T - F)).drop (P - F) = seg ++ 1 :: rest → P + seg.length < T ∧ l.drop P = seg ++ 1 :: (rest ++ l.drop T) from fun P hP seg rest h => seg_at l F T P seg rest hP hT h)
  obtain ⟨body, hbody⟩ : ∃ x, (l.drop F).take (T - F) = x := ⟨_, rfl⟩
  rw [hbody] at hbl hlast HBD ⊢
  clear hbody
  have HL := hid hlast
  have hsz : ((w.alloc (.cells ansZ 61)).alloc (.cells ansZ 61)).heap.size = w.heap.size + 2 := by simp
  have PK := hid (show PaR w F body l b o 0 [] [] (.slice none 0 0) ((w.alloc (.cells ansZ 61)).alloc (.cells ansZ 61)) from ⟨row_on (heap_alloc_new _ _) (ball _ _), by
    have := heap_alloc_new (w.alloc (.cells ansZ 61)) (.cells ansZ 61)
    rw [show (w.alloc (.cells ansZ 61)).heap.size = w.heap.size + 1 by simp] at this
    exact this, ⟨World.ownsRow_nil _ _ _ _, Below.refl _ _, by rw [hsz]; exact Nat.le_refl _⟩, (hS.on (ball _ _)).on (ball _ _), btr' (ball _ _) (ball _ _), rfl, fun _ => ⟨rfl, rfl⟩, by simp⟩)
  have HS := hid hS
  clear hS hlast hsz
  go_enter Tryd.func38, Tryd.ntmps38
  go_wp2
  go_loopw [8] (fun iv wr => ∃ P : Nat, F ≤ P ∧ P ≤ T ∧ iv = .int .i64 P ∧ ∃ kind tags v, Hid (PaR w F body l b o (P - F) kind tags v wr)) (fun iv _ => T - (RowKit.intOf iv).toNat)
  case atStart => exact ⟨F, Nat.le_refl _, by omega, rfl, [], [], _, by rw [Nat.sub_self]; exact PK⟩
  case round =>
    obtain ⟨P, hFP, hPT, rfl, kind, tags, v, PJ⟩ := hrel
    clear PK
    by_cases hlt : P < T
    · have hlt' : (P : Int) < (T : Int) := by omega
      obtain ⟨seg, rest, hR, h1⟩ := seg_of body (P - F) (by omega) HL.out
      obtain ⟨hn, hdr⟩ := HBD.out P hFP seg rest hR
      have HFL := hid (bodyR_field body seg rest (P - F) kind tags hR h1)
      have HSEG := hid (show ∀ k (hk : k < seg.length), l[P + k]'(by omega) = seg[k] from fun k hk => by
        rw [at_seg hdr k (by simp; omega) (by omega)]
        rw [List.getElem_append_left hk])
      have HONE := hid (show l[P + seg.length]'(by omega) = 1 from by
        rw [at_seg hdr seg.length (by simp) (by omega)]
        simp)
      have HBADR := hid (show ∀ why : Int, why ≠ 0 → bodyR body (body.drop (P - F)) (P - F) (P - F) kind tags = ([], [], P - F, why) → ∀ w', Below w.heap.size w w' → PartP F (bodyR body body 0 0 [] []) w (.returned (.agg (ansB P why))) w' from fun why hw he w' hb => by
        have e1 : bodyR body body 0 0 [] [] = ([], [], P - F, why) := PJ.out.eq.trans he
        rw [e1]
        refine ⟨hb, Or.inl ⟨hw, ?_⟩⟩
        simp only
        rw [show F + (P - F) = P by omega])
      obtain ⟨n, hnn⟩ : ∃ n, seg.length = n := ⟨_, rfl⟩
      rw [hnn] at hn
      have HNN := hid hnn
      have H1 := hid h1
      have HDR := hid hdr
      clear hnn h1 hdr
      go_wp2
      go_loopw [9] (fun ev w2 => ∃ E : Nat, P ≤ E ∧ E ≤ P + n ∧ ev = .int .i64 E ∧ w2 = wr) (fun ev _ => P + n - (RowKit.intOf ev).toNat)
      case atStart => exact ⟨P, Nat.le_refl _, by omega, rfl, rfl⟩
      case round =>
        obtain ⟨E, hPE, hEn, rfl, rfl⟩ := hrel
        have h0 := PJ.out.s.at E (by omega)
        have i0 : (0 : Int) ≤ (E : Int) := by omega
        have i1 : (E : Int) < (l.length : Int) := by omega
        by_cases hE : E < P + n
        · obtain ⟨c, hc⟩ : ∃ c, l[E]'(by omega) = c := ⟨_, rfl⟩
          rw [hc] at h0
          have hne : ((c.toNat : Int) != 1) = true := by
            have h2 := HSEG.out (E - P) (by rw [HNN.out]; omega)
            have h3 : l[P + (E - P)]'(by omega) = c := by rw [← hc]; congr 1; omega
            rw [h3] at h2
            simp
            intro e
            have e2 : c = 1 := UInt8.toNat_inj.1 (by simp; omega)
            exact H1.out (by rw [← e2, h2]; exact List.getElem_mem _)
          clear hc
          go_wp2
          go_roundw
          case rel => exact ⟨E + 1, by omega, by omega, by go_num, trivial⟩
          case measure => simp [RowKit.intOf]; omega
        · have hEe : E = P + n := by omega
          have hc : l[E]'(by omega) = 1 := by
            have h2 := HONE.out
            simp only [HNN.out] at h2
            simp only [hEe]
            exact h2
          rw [hc] at h0
          have hne : (((1 : UInt8).toNat : Int) != 1) = false := by decide
          have HSL := hid (show (l.drop P).take (E - P) = seg by rw [HDR.out, show E - P = seg.length by rw [HNN.out]; omega]; simp)
          have j1 : (P : Int) ≤ (E : Int) := by omega
          have j2 : (E : Int) ≤ (cap : Int) := by omega
          have j3 : (0 : Int) ≤ (P : Int) := by omega
          have HSB := hid PJ.out.s
          have hE2 : P + n ≤ E := by omega
          clear hc hE hEe
          rcases cut_spec seg with ⟨hno, hcut⟩ | ⟨hd, vl, hsg, hno, hcut⟩
          · have HF0 := hid (show bodyR body (body.drop (P - F)) (P - F) (P - F) kind tags = ([], [], P - F, 3) by rw [HFL.out, if_pos (by unfold fieldE; rw [hcut]; simp)])
            have HNO := hid hno
            have HNA := hid (fun w => natural_any seg w (by rw [HNN.out]; omega))
            have cv1 := conv_sb ((HSB.out.drop P).take (E - P)) (cap - P)
            rw [HSL.out, show seg.length = E - P by rw [HNN.out]; omega] at cv1
            have cv2 := conv_sb ((HSB.out.drop E).take 0) (cap - E)
            simp only [List.take_zero, List.length_nil] at cv2
            clear hcut hno HFL
            go_wp2
            go_loopw [10] (fun qv w2 => ∃ Q : Nat, P ≤ Q ∧ Q ≤ E ∧ qv = .int .i64 Q ∧ w2 = wr) (fun qv _ => E - (RowKit.intOf qv).toNat)
            case atStart => exact ⟨P, Nat.le_refl _, by omega, rfl, rfl⟩
            case round =>
              obtain ⟨Q, hPQ, hQE, rfl, rfl⟩ := hrel
              by_cases hQ : Q < E
              · have hq : (Q : Int) < (E : Int) := by omega
                have g0 := HSB.out.at Q (by omega)
                have q0 : (0 : Int) ≤ (Q : Int) := by omega
                have q1 : (Q : Int) < (l.length : Int) := by omega
                obtain ⟨c, hc⟩ : ∃ c, l[Q]'(by omega) = c := ⟨_, rfl⟩
                rw [hc] at g0
                have hne2 : ((c.toNat : Int) != 61) = true := by
                  have h2 := HSEG.out (Q - P) (by rw [HNN.out]; omega)
                  have h3 : l[P + (Q - P)]'(by omega) = c := by rw [← hc]; congr 1; omega
                  rw [h3] at h2
                  simp
                  intro e
                  have e2 : c = 61 := UInt8.toNat_inj.1 (by simp; omega)
                  exact HNO.out (by rw [← e2, h2]; exact List.getElem_mem _)
                clear hc
                go_wp2
                go_roundw
                case rel => exact ⟨Q + 1, by omega, by omega, by go_num, trivial⟩
                case measure => simp [RowKit.intOf]; omega
              · obtain rfl : Q = E := by omega
                have hq : ¬ ((Q : Int) < (Q : Int)) := by omega
                have hmin : min ((Q : Int) + 1) (Q : Int) = (Q : Int) := by omega
                go_wp2_with (first | (go_at_call 47; refine (HNA.out _).mono ?_; rintro e w2 ⟨rfl, rfl⟩) | (go_at_call 35; refine (BA.out _ _ _).mono ?_; rintro e w1 ⟨rfl, hb⟩; have HB1 := hid hb; clear hb; refine Hid.out ?_))
                have HZ1 := hid (row_on PJ.out.z HB1.out)
                have HW1 := hid (btr' PJ.out.bel HB1.out)
                clear HB1
                refine Lib.hid ?_
                go_wp2_with (first | (refine wpList_st (by rfl) 61 (.tmp 6) (.tmp 71) (by rfl) w.heap.size (ansB P 3) (by rfl) (by rfl) 61 ansZ HZ1.out info67 rfl (by simp [ansB, Value.oneCell']) ?_; intro w5 hst; have HST := hid hst; clear hst; refine Hid.out ?_))
                refine Lib.hid ?_
                go_wp2
                exact bodyPost_ret (results_cell_row (fn := Tryd.f38) Tryd.results38 _ _ w.heap.size 61 (ansB P 3) (0, 0) _ (by rfl) HST.out.row Tryd.underlying61 rfl info67) rfl (HBADR.out 3 (by decide) HF0.out _ (HST.out.bel _ _ HW1.out (Nat.le_refl _)))
          · obtain ⟨m, hm⟩ : ∃ m, hd.length = m := ⟨_, rfl⟩
            have hnm : m + 1 + vl.length = n := by
              have := HNN.out
              rw [hsg] at this
              simp at this
              omega
            have HNO := hid (show ∀ k (hk : k < m), l[P + k]'(by omega) ≠ 61 from fun k hk e => by
              have h2 := HSEG.out k (by rw [HNN.out]; omega)
              rw [e] at h2
              simp only [hsg] at h2
              rw [List.getElem_append_left (by omega)] at h2
              exact hno (by rw [h2]; exact List.getElem_mem _))
            have HEQ := hid (show l[P + m]'(by omega) = 61 by
              have h2 := HSEG.out m (by rw [HNN.out]; omega)
              rw [h2]
              simp only [hsg]
              rw [List.getElem_append_right (by omega)]
              simp [hm])
            have HHD := hid (show (l.drop P).take m = hd by rw [HDR.out, hsg, ← hm]; simp)
            have HVL := hid (show (l.drop (P + m + 1)).take (E - (P + m + 1)) = vl by
              rw [show P + m + 1 = P + (m + 1) by omega, ← List.drop_drop, HDR.out, hsg, ← hm, show E - (P + (hd.length + 1)) = vl.length by omega]
              simp)
            have HFE := hid (show fieldE seg = if 4 < m then ((0, []), false) else (((((num hd).getD 0 : Nat) : Int), vl), (num hd).isSome) by
              unfold fieldE
              rw [hcut]
              simp only [hm, Bool.true_eq_false, false_or])
            have HNA := hid (fun w => natural_any hd w (by omega))
            rw [nat_num] at HNA
            clear hcut hno hsg
            go_wp2
            go_loopw [10] (fun qv w2 => ∃ Q : Nat, P ≤ Q ∧ Q ≤ P + m ∧ qv = .int .i64 Q ∧ w2 = wr) (fun qv _ => P + m - (RowKit.intOf qv).toNat)
            case atStart => exact ⟨P, Nat.le_refl _, by omega, rfl, rfl⟩
            case round =>
              obtain ⟨Q, hPQ, hQE, rfl, rfl⟩ := hrel
              have hq : (Q : Int) < (E : Int) := by omega
              have g0 := HSB.out.at Q (by omega)
              have q0 : (0 : Int) ≤ (Q : Int) := by omega
              have q1 : (Q : Int) < (l.length : Int) := by omega
              by_cases hQ : Q < P + m
              · obtain ⟨c, hc⟩ : ∃ c, l[Q]'(by omega) = c := ⟨_, rfl⟩
                rw [hc] at g0
                have hne2 : ((c.toNat : Int) != 61) = true := by
                  have h2 := HNO.out (Q - P) (by omega)
                  have h3 : l[P + (Q - P)]'(by omega) = c := by rw [← hc]; congr 1; omega
                  rw [h3] at h2
                  simp
                  intro e
                  exact h2 (UInt8.toNat_inj.1 (by simp; omega))
                clear hc
                go_wp2
                go_roundw
                case rel => exact ⟨Q + 1, by omega, by omega, by go_num, trivial⟩
                case measure => simp [RowKit.intOf]; omega
              · have hQe : Q = P + m := by omega
                have hc : l[Q]'(by omega) = 61 := by
                  have h2 := HEQ.out
                  simp only [hQe]
                  exact h2
                rw [hc] at g0
                have hne2 : (((61 : UInt8).toNat : Int) != 61) = false := by decide
                have hmin : min ((Q : Int) + 1) (E : Int) = (Q : Int) + 1 := by omega
                have hqe : ((Q : Int) == (E : Int)) = false := by simp; omega
                have cv1 := conv_sb ((HSB.out.drop P).take (Q - P)) (cap - P)
                rw [show Q - P = m by omega, HHD.out, show hd.length = Q - P by omega] at cv1
                have cv2 := conv_sb ((HSB.out.drop (Q + 1)).take (E - (Q + 1))) (cap - (Q + 1))
                rw [show (l.drop (Q + 1)).take (E - (Q + 1)) = vl by rw [hQe]; exact HVL.out, show vl.length = E - (Q + 1) by omega] at cv2
                have k1 : (P : Int) ≤ (Q : Int) := by omega
                have k2 : (Q : Int) ≤ (cap : Int) := by omega
                have k3 : (Q : Int) + 1 ≤ (E : Int) := by omega
                have k4 : (0 : Int) ≤ (Q : Int) + 1 := by omega
                have k5 : ¬ cap = Q + 1 := by omega
                have hgE : P - F + n + 1 = E + 1 - F := by omega
                have hvl2 : vl.length ≤ 5000 := by omega
                have HQM := hid (show Q - P = m by omega)
                clear hc hQ hQe HNO HEQ HHD HVL HSEG HONE
                cases hnum : num hd with
                | none =>
                  rw [hnum] at HNA HFE
                  simp only [Option.getD_none, Option.isSome_none] at HNA
                  have HF0 := hid (show bodyR body (body.drop (P - F)) (P - F) (P - F) kind tags = ([], [], P - F, 3) by rw [HFL.out, if_pos (by rw [HFE.out]; split <;> simp)])
                  clear HFL HFE hnum
                  go_wp2_with (first | (go_at_call 47; refine (HNA.out _).mono ?_; rintro e w2 ⟨rfl, rfl⟩) | (go_at_call 35; refine (BA.out _ _ _).mono ?_; rintro e w1 ⟨rfl, hb⟩; have HB1 := hid hb; clear hb; refine Hid.out ?_))
                  have HZ1 := hid (row_on PJ.out.z HB1.out)
                  have HW1 := hid (btr' PJ.out.bel HB1.out)
                  clear HB1
                  refine Lib.hid ?_
                  go_wp2_with (first | (refine wpList_st (by rfl) 61 (.tmp 6) (.tmp 71) (by rfl) w.heap.size (ansB P 3) (by rfl) (by rfl) 61 ansZ HZ1.out info67 rfl (by simp [ansB, Value.oneCell']) ?_; intro w5 hst; have HST := hid hst; clear hst; refine Hid.out ?_))
                  refine Lib.hid ?_
                  go_wp2
                  exact bodyPost_ret (results_cell_row (fn := Tryd.f38) Tryd.results38 _ _ w.heap.size 61 (ansB P 3) (0, 0) _ (by rfl) HST.out.row Tryd.underlying61 rfl info67) rfl (HBADR.out 3 (by decide) HF0.out _ (HST.out.bel _ _ HW1.out (Nat.le_refl _)))
                | some t =>
                  rw [hnum] at HNA HFE
                  simp only [Option.getD_some, Option.isSome_some] at HNA
                  by_cases h4 : 4 < m
                  · have HF0 := hid (show bodyR body (body.drop (P - F)) (P - F) (P - F) kind tags = ([], [], P - F, 3) by rw [HFL.out, if_pos (by rw [HFE.out, if_pos h4])])
                    have h5 : (4 : Int) < (Q : Int) - (P : Int) := by have := HQM.out; omega
                    clear HFL HFE hnum
                    go_wp2_with (first | (go_at_call 47; refine (HNA.out _).mono ?_; rintro e w2 ⟨rfl, rfl⟩) | (go_at_call 35; refine (BA.out _ _ _).mono ?_; rintro e w1 ⟨rfl, hb⟩; have HB1 := hid hb; clear hb; refine Hid.out ?_))
                    have HZ1 := hid (row_on PJ.out.z HB1.out)
                    have HW1 := hid (btr' PJ.out.bel HB1.out)
                    clear HB1
                    refine Lib.hid ?_
                    go_wp2_with (first | (refine wpList_st (by rfl) 61 (.tmp 6) (.tmp 71) (by rfl) w.heap.size (ansB P 3) (by rfl) (by rfl) 61 ansZ HZ1.out info67 rfl (by simp [ansB, Value.oneCell']) ?_; intro w5 hst; have HST := hid hst; clear hst; refine Hid.out ?_))
                    refine Lib.hid ?_
                    go_wp2
                    exact bodyPost_ret (results_cell_row (fn := Tryd.f38) Tryd.results38 _ _ w.heap.size 61 (ansB P 3) (0, 0) _ (by rfl) HST.out.row Tryd.underlying61 rfl info67) rfl (HBADR.out 3 (by decide) HF0.out _ (HST.out.bel _ _ HW1.out (Nat.le_refl _)))
                  · have HFE2 := hid (show fieldE seg = (((t : Int), vl), true) by rw [HFE.out, if_neg h4]; simp)
                    have h5 : ¬ (4 : Int) < (Q : Int) - (P : Int) := by have := HQM.out; omega
                    have ht5 := num_lt5 hd t hnum (by omega)
                    have hws : IntKind.i64.wrap (t : Int) = (t : Int) := by rw [IntKind.wrap_i64]; omega
                    clear HFE hnum h4
                    rw [HFE2.out, HNN.out] at HFL
                    simp only [Bool.true_eq_false, if_false] at HFL
                    rw [hgE] at HFL
                    obtain ⟨qv, cv, rfl, hTs, hcv, hcv2⟩ := PJ.out.ow.form
                    by_cases hPF : P = F
                    · have hpf : ((P : Int) == (F : Int)) = true := by simp; omega
                      rw [if_pos (by omega)] at HFL
                      clear hTs hPF
                      by_cases ht : t = 35
                      · have ht2 : ((t : Int) != 35) = false := by simp; omega
                        have HKA := hid (fun w => rkind_any vl w (by omega))
                        by_cases hk : KindOk vl
                        · rw [show kindE ((t : Int), vl) = (vl, 0) by unfold kindE; rw [if_pos ⟨by simp; omega, hk⟩]] at HFL
                          simp only [ne_eq, not_true_eq_false, if_false] at HFL
                          rw [decide_eq_true hk] at HKA
                          have a0 : wr.cell? ⟨w.heap.size + 1, 0, none⟩ = some (.string ⟨kind.toArray⟩) := row_cell PJ.out.a 0
                          have f0 := frozen_of_row wr (w.heap.size + 1) 0 _ _ PJ.out.a
                          have HPN := hid (PaR.put PJ.out HS.out (Below.refl _ _) PJ.out.ow 0 (.string ⟨vl.toArray⟩) rfl HFL.out (by omega) PJ.out.len)
                          clear HFL hk ht
                          go_wp2_with (first | (go_at_call 47; refine (HNA.out _).mono ?_; rintro e w2 ⟨rfl, rfl⟩) | (go_at_call 48; refine (HKA.out _).mono ?_; rintro e w2 ⟨rfl, rfl⟩))
                          go_roundw
                          case rel => exact ⟨E + 1, by omega, by omega, by go_num, vl, tags, _, HPN⟩
                          case measure => simp [RowKit.intOf]; omega
                        · rw [show kindE ((t : Int), vl) = ([], 3) by unfold kindE; rw [if_neg (fun h => hk h.2)]] at HFL
                          simp only [ne_eq, show (3 : Int) ≠ 0 by decide, not_false_eq_true, if_true] at HFL
                          rw [decide_eq_false hk] at HKA
                          clear hk ht
                          go_wp2_with (first | (go_at_call 47; refine (HNA.out _).mono ?_; rintro e w2 ⟨rfl, rfl⟩) | (go_at_call 48; refine (HKA.out _).mono ?_; rintro e w2 ⟨rfl, rfl⟩) | (go_at_call 35; refine (BA.out _ _ _).mono ?_; rintro e w1 ⟨rfl, hb⟩; have HB1 := hid hb; clear hb; refine Hid.out ?_))
                          have HZ1 := hid (row_on PJ.out.z HB1.out)
                          have HW1 := hid (btr' PJ.out.bel HB1.out)
                          clear HB1
                          refine Lib.hid ?_
                          go_wp2_with (first | (refine wpList_st (by rfl) 61 (.tmp 6) (.tmp 83) (by rfl) w.heap.size (ansB P 3) (by rfl) (by rfl) 61 ansZ HZ1.out info67 rfl (by simp [ansB, Value.oneCell']) ?_; intro w5 hst; have HST := hid hst; clear hst; refine Hid.out ?_))
                          refine Lib.hid ?_
                          go_wp2
                          exact bodyPost_ret (results_cell_row (fn := Tryd.f38) Tryd.results38 _ _ w.heap.size 61 (ansB P 3) (0, 0) _ (by rfl) HST.out.row Tryd.underlying61 rfl info67) rfl (HBADR.out 3 (by decide) HFL.out _ (HST.out.bel _ _ HW1.out (Nat.le_refl _)))
                      · have ht2 : ((t : Int) != 35) = true := by simp; omega
                        rw [show kindE ((t : Int), vl) = ([], 3) by unfold kindE; rw [if_neg (fun h => ht (by have := h.1; simp at this; omega))]] at HFL
                        simp only [ne_eq, show (3 : Int) ≠ 0 by decide, not_false_eq_true, if_true] at HFL
                        clear ht
                        go_wp2_with (first | (go_at_call 47; refine (HNA.out _).mono ?_; rintro e w2 ⟨rfl, rfl⟩) | (go_at_call 35; refine (BA.out _ _ _).mono ?_; rintro e w1 ⟨rfl, hb⟩; have HB1 := hid hb; clear hb; refine Hid.out ?_))
                        have HZ1 := hid (row_on PJ.out.z HB1.out)
                        have HW1 := hid (btr' PJ.out.bel HB1.out)
                        clear HB1
                        refine Lib.hid ?_
                        go_wp2_with (first | (refine wpList_st (by rfl) 61 (.tmp 6) (.tmp 83) (by rfl) w.heap.size (ansB P 3) (by rfl) (by rfl) 61 ansZ HZ1.out info67 rfl (by simp [ansB, Value.oneCell']) ?_; intro w5 hst; have HST := hid hst; clear hst; refine Hid.out ?_))
                        refine Lib.hid ?_
                        go_wp2
                        exact bodyPost_ret (results_cell_row (fn := Tryd.f38) Tryd.results38 _ _ w.heap.size 61 (ansB P 3) (0, 0) _ (by rfl) HST.out.row Tryd.underlying61 rfl info67) rfl (HBADR.out 3 (by decide) HFL.out _ (HST.out.bel _ _ HW1.out (Nat.le_refl _)))
                    · have hpf : ((P : Int) == (F : Int)) = false := by simp; omega
                      rw [if_neg (by omega)] at HFL
                      clear hPF
                      have a1 : wr.cell? ⟨w.heap.size + 1, 1, none⟩ = some (.slice qv tags.length cv) := row_cell PJ.out.a 1
                      have hl64 := PJ.out.len
                      have HTA := hid (fun w => istag_any (t : Int) w)
                      have HTH := hid (there_any tags qv cv (t : Int) wr (by omega) hTs)
                      have HVA := hid (fun w => risvalue_any vl w (by omega))
                      clear hTs
                      by_cases h64 : tags.length = 64
                      · rw [if_pos h64] at HFL
                        have g64 : (64 : Int) ≤ (tags.length : Int) := by omega
                        clear h64
                        go_wp2_with (first | (go_at_call 47; refine (HNA.out _).mono ?_; rintro e w2 ⟨rfl, rfl⟩) | (go_at_call 35; refine (BA.out _ _ _).mono ?_; rintro e w1 ⟨rfl, hb⟩; have HB1 := hid hb; clear hb; refine Hid.out ?_))
                        have HZ1 := hid (row_on PJ.out.z HB1.out)
                        have HW1 := hid (btr' PJ.out.bel HB1.out)
                        clear HB1
                        refine Lib.hid ?_
                        go_wp2_with (first | (refine wpList_st (by rfl) 61 (.tmp 6) (.tmp 91) (by rfl) w.heap.size (ansB P 2) (by rfl) (by rfl) 61 ansZ HZ1.out info67 rfl (by simp [ansB, Value.oneCell']) ?_; intro w5 hst; have HST := hid hst; clear hst; refine Hid.out ?_))
                        refine Lib.hid ?_
                        go_wp2
                        exact bodyPost_ret (results_cell_row (fn := Tryd.f38) Tryd.results38 _ _ w.heap.size 61 (ansB P 2) (0, 0) _ (by rfl) HST.out.row Tryd.underlying61 rfl info67) rfl (HBADR.out 2 (by decide) HFL.out _ (HST.out.bel _ _ HW1.out (Nat.le_refl _)))
                      · rw [if_neg h64] at HFL
                        have g64 : ¬ (64 : Int) ≤ (tags.length : Int) := by omega
                        by_cases u1 : TagOk (t : Int)
                        · rw [decide_eq_true u1] at HTA
                          cases u2 : (val? tags (t : Int)).isSome with
                          | true =>
                            rw [u2] at HTH
                            rw [show fitsE tags ((t : Int), vl) = 30 by unfold fitsE; rw [if_neg (by simpa using u1), if_pos u2]] at HFL
                            simp only [ne_eq, show (30 : Int) ≠ 0 by decide, not_false_eq_true, if_true] at HFL
                            go_wp2_with (first | (go_at_call 47; refine (HNA.out _).mono ?_; rintro e w2 ⟨rfl, rfl⟩) | (go_at_call 49; refine (HTA.out _).mono ?_; rintro e w2 ⟨rfl, rfl⟩) | (go_at_call 50; refine HTH.out.mono ?_; rintro e w2 ⟨rfl, rfl⟩) | (go_at_call 35; refine (BA.out _ _ _).mono ?_; rintro e w1 ⟨rfl, hb⟩; have HB1 := hid hb; clear hb; refine Hid.out ?_))
                            have HZ1 := hid (row_on PJ.out.z HB1.out)
                            have HW1 := hid (btr' PJ.out.bel HB1.out)
                            clear HB1
                            refine Lib.hid ?_
                            go_wp2_with (first | (refine wpList_st (by rfl) 61 (.tmp 6) (.tmp 104) (by rfl) w.heap.size (ansB P 30) (by rfl) (by rfl) 61 ansZ HZ1.out info67 rfl (by simp [ansB, Value.oneCell']) ?_; intro w5 hst; have HST := hid hst; clear hst; refine Hid.out ?_))
                            refine Lib.hid ?_
                            go_wp2
                            exact bodyPost_ret (results_cell_row (fn := Tryd.f38) Tryd.results38 _ _ w.heap.size 61 (ansB P 30) (0, 0) _ (by rfl) HST.out.row Tryd.underlying61 rfl info67) rfl (HBADR.out 30 (by decide) HFL.out _ (HST.out.bel _ _ HW1.out (Nat.le_refl _)))
                          | false =>
                            rw [u2] at HTH
                            by_cases u3 : ValOk vl
                            · rw [decide_eq_true u3] at HVA
                              rw [show fitsE tags ((t : Int), vl) = 0 by unfold fitsE; rw [if_neg (by simpa using u1), if_neg (by simp [u2]), if_neg (by simpa using u3)]] at HFL
                              simp only [ne_eq, not_true_eq_false, if_false] at HFL
                              have HPN := hid (fun w3 v3 hO => PaR.put (w3 := w3) (v' := v3) PJ.out HS.out (show OwnT (w.heap.size + 2) wr w3 v3 (tags ++ [((t : Int), vl)]) from hO).2.1 hO 1 v3 rfl HFL.out (by omega) (by simp; omega))
                              clear HFL u1 u2 u3
                              go_wp2_with (first | (go_at_call 47; refine (HNA.out _).mono ?_; rintro e w2 ⟨rfl, rfl⟩) | (go_at_call 49; refine (HTA.out _).mono ?_; rintro e w2 ⟨rfl, rfl⟩) | (go_at_call 50; refine HTH.out.mono ?_; rintro e w2 ⟨rfl, rfl⟩) | (go_at_call 51; refine (HVA.out _).mono ?_; rintro e w2 ⟨rfl, rfl⟩) | (at_builtin; refine own_tag (by rfl) (.tmp 111) (.tmp 116) (by rfl) (w.heap.size + 2) _ tags (by rfl) _ _ t vl PJ.out.ow (by rfl) (by omega) ?_; intro v3 w3 hO3; obtain ⟨q3, c3, rfl, _, _, _⟩ := hO3.form; have HO3 := hid hO3; clear hO3; have a3 : w3.cell? ⟨w.heap.size + 1, 1, none⟩ = some (.slice qv tags.length cv) := row_cell (show w3.heap[w.heap.size + 1]? = some (.cells (ansV kind (.slice qv tags.length cv) 0 0 false 0) 61 (0, 0)) by rw [HO3.out.2.1.block _ (by omega)]; exact PJ.out.a) 1; have f3 := frozen_of_row w3 (w.heap.size + 1) 1 _ _ (show w3.heap[w.heap.size + 1]? = some (.cells (ansV kind (.slice qv tags.length cv) 0 0 false 0) 61 (0, 0)) by rw [HO3.out.2.1.block _ (by omega)]; exact PJ.out.a)))
                              go_roundw
                              case rel => exact ⟨E + 1, by omega, by omega, by go_num, kind, tags ++ [((t : Int), vl)], _, hid (HPN.out _ _ (by have h := HO3.out; rw [List.length_append] at h; exact h))⟩
                              case measure => simp [RowKit.intOf]; omega
                            · rw [decide_eq_false u3] at HVA
                              rw [show fitsE tags ((t : Int), vl) = 31 by unfold fitsE; rw [if_neg (by simpa using u1), if_neg (by simp [u2]), if_pos u3]] at HFL
                              simp only [ne_eq, show (31 : Int) ≠ 0 by decide, not_false_eq_true, if_true] at HFL
                              clear u1 u2 u3
                              go_wp2_with (first | (go_at_call 47; refine (HNA.out _).mono ?_; rintro e w2 ⟨rfl, rfl⟩) | (go_at_call 49; refine (HTA.out _).mono ?_; rintro e w2 ⟨rfl, rfl⟩) | (go_at_call 50; refine HTH.out.mono ?_; rintro e w2 ⟨rfl, rfl⟩) | (go_at_call 51; refine (HVA.out _).mono ?_; rintro e w2 ⟨rfl, rfl⟩) | (go_at_call 35; refine (BA.out _ _ _).mono ?_; rintro e w1 ⟨rfl, hb⟩; have HB1 := hid hb; clear hb; refine Hid.out ?_))
                              have HZ1 := hid (row_on PJ.out.z HB1.out)
                              have HW1 := hid (btr' PJ.out.bel HB1.out)
                              clear HB1
                              refine Lib.hid ?_
                              go_wp2_with (first | (refine wpList_st (by rfl) 61 (.tmp 6) (.tmp 109) (by rfl) w.heap.size (ansB P 31) (by rfl) (by rfl) 61 ansZ HZ1.out info67 rfl (by simp [ansB, Value.oneCell']) ?_; intro w5 hst; have HST := hid hst; clear hst; refine Hid.out ?_))
                              refine Lib.hid ?_
                              go_wp2
                              exact bodyPost_ret (results_cell_row (fn := Tryd.f38) Tryd.results38 _ _ w.heap.size 61 (ansB P 31) (0, 0) _ (by rfl) HST.out.row Tryd.underlying61 rfl info67) rfl (HBADR.out 31 (by decide) HFL.out _ (HST.out.bel _ _ HW1.out (Nat.le_refl _)))
                        · rw [decide_eq_false u1] at HTA
                          rw [show fitsE tags ((t : Int), vl) = 30 by unfold fitsE; rw [if_pos (by simpa using u1)]] at HFL
                          simp only [ne_eq, show (30 : Int) ≠ 0 by decide, not_false_eq_true, if_true] at HFL
                          clear u1
                          go_wp2_with (first | (go_at_call 47; refine (HNA.out _).mono ?_; rintro e w2 ⟨rfl, rfl⟩) | (go_at_call 49; refine (HTA.out _).mono ?_; rintro e w2 ⟨rfl, rfl⟩) | (go_at_call 35; refine (BA.out _ _ _).mono ?_; rintro e w1 ⟨rfl, hb⟩; have HB1 := hid hb; clear hb; refine Hid.out ?_))
                          have HZ1 := hid (row_on PJ.out.z HB1.out)
                          have HW1 := hid (btr' PJ.out.bel HB1.out)
                          clear HB1
                          refine Lib.hid ?_
                          go_wp2_with (first | (refine wpList_st (by rfl) 61 (.tmp 6) (.tmp 104) (by rfl) w.heap.size (ansB P 30) (by rfl) (by rfl) 61 ansZ HZ1.out info67 rfl (by simp [ansB, Value.oneCell']) ?_; intro w5 hst; have HST := hid hst; clear hst; refine Hid.out ?_))
                          refine Lib.hid ?_
                          go_wp2
                          exact bodyPost_ret (results_cell_row (fn := Tryd.f38) Tryd.results38 _ _ w.heap.size 61 (ansB P 30) (0, 0) _ (by rfl) HST.out.row Tryd.underlying61 rfl info67) rfl (HBADR.out 30 (by decide) HFL.out _ (HST.out.bel _ _ HW1.out (Nat.le_refl _)))
    · obtain rfl : P = T := by omega
      have hlt' : ¬ (P : Int) < (P : Int) := by omega
      have HEE := hid (show bodyR body body 0 0 [] [] = (kind, tags, 0, 0) from PJ.out.eq.trans (bodyR_end body kind tags (P - F) (by omega)))
      obtain ⟨qv, cv, rfl, hTs, hcv, hcv2⟩ := PJ.out.ow.form
      have ha := PJ.out.a
      have x0 : wr.cell? ⟨w.heap.size + 1, 0, none⟩ = some (.string ⟨kind.toArray⟩) := row_cell ha 0
      have x1 : wr.cell? ⟨w.heap.size + 1, 1, none⟩ = some (.slice qv tags.length cv) := row_cell ha 1
      have x2 : wr.cell? ⟨w.heap.size + 1, 2, none⟩ = some (.int .i64 0) := row_cell ha 2
      have x3 : wr.cell? ⟨w.heap.size + 1, 3, none⟩ = some (.int .i64 0) := row_cell ha 3
      have x4 : wr.cell? ⟨w.heap.size + 1, 4, none⟩ = some (.bool false) := row_cell ha 4
      have x5 : wr.cell? ⟨w.heap.size + 1, 5, none⟩ = some (.int .i64 0) := row_cell ha 5
      clear HBD ha hTs
      go_wp2_with (first | (refine wpList_st (by rfl) 61 (.tmp 6) (.tmp 121) (by rfl) w.heap.size (ansV kind (.slice qv tags.length cv) 0 0 false 0) (by rfl) (by rfl) 61 ansZ PJ.out.z info67 rfl (by simp [ansV, Value.oneCell']) ?_; intro w5 hst; have HST := hid hst; clear hst; refine Hid.out ?_))
      refine Lib.hid ?_
      go_wp2
      refine bodyPost_ret (results_cell_row (fn := Tryd.f38) Tryd.results38 _ _ w.heap.size 61 (ansV kind (.slice qv tags.length cv) 0 0 false 0) (0, 0) _ (by rfl) HST.out.row Tryd.underlying61 rfl info67) rfl ?_
      have hb5 := HST.out.bel _ _ PJ.out.bel (Nat.le_refl _)
      rw [HEE.out]
      exact ⟨hb5, Or.inr ⟨rfl, _, rfl, PJ.out.ow.same (by omega) (fun k hk => HST.out.oth k (by omega)) HST.out.siz hb5⟩⟩
end Go.Proofs.YtolabllgnfpfaaaDoor
