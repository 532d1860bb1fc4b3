/-
  The document's Read.
-/
import Derived.Test.YtolabllgnfpfaaaDoorTzD
namespace Go.Proofs.YtolabllgnfpfaaaDoor
open Go.RowKit Go.Deep Go.Lib Go.Shelf Go.Sort
set_option linter.unusedVariables false
set_option linter.unusedSimpArgs false

/-- what Read of bytes says. -/
def ReadP (l : List UInt8) (w : World) (e : Ending) (w' : World) : Prop :=
  ∃ v, e = .returned (.agg (ansV (decR l).1 v ((decR l).2.2.1 : Nat) (decR l).2.2.2 (decide ((outE l).2.2 = 0)) ((if (outE l).2.2 = 0 then (outE l).1.2 + 7 else 0 : Nat)))) ∧ OwnT w.heap.size w w' v (decR l).2.1
theorem readP_bad {l : List UInt8} {w w' : World} {p : Nat} {why : Int} (hw : why ≠ 0) (h : outE l = ((0, 0), p, why)) (hb : Below w.heap.size w w') : ReadP l w (.returned (.agg (ansB p why))) w' := by
  have hd : decR l = ([], [], p, why) := by unfold decR; rw [h]; simp only; rw [if_pos hw]
  refine ⟨.slice none 0 0, ?_, ?_⟩
  · rw [hd, h]
    simp only [hw, decide_false, if_false]
    rfl
  · rw [hd]
    exact ownT_nilB hb
theorem cells67 {w : World} {g : Nat} {a b c d e f : Value} (h : w.heap[g]? = some (.cells #[a, b, c, d, e, f] 61 (0, 0))) : w.cell? ⟨g, 0, none⟩ = some a ∧ w.cell? ⟨g, 1, none⟩ = some b ∧ w.cell? ⟨g, 2, none⟩ = some c ∧ w.cell? ⟨g, 3, none⟩ = some d ∧ w.cell? ⟨g, 4, none⟩ = some e ∧ w.cell? ⟨g, 5, none⟩ = some f :=
  ⟨row_cell h 0, row_cell h 1, row_cell h 2, row_cell h 3, row_cell h 4, row_cell h 5⟩
set_option maxHeartbeats 4000000 in
set_option maxRecDepth 100000 in
theorem read_bad (l : List UInt8) (q : Option Addr) (cap : Nat) (w : World) (hl : l.length < 4611686018427387904) (hcap : l.length ≤ cap) (hcm : cap < 9223372036854775808) (hS : Sb w q l) (hh : (headR l).2.2 ≠ 0) :
    Calls Tryd.prog 22 #[.slice q l.length cap] w fun e w' => ReadP l w e w' := by
  have hO := headR_bad l hh
  have HH := hid (fun w' hb => head_any l q cap w' hl hcap hcm (hS.on (show Below w.heap.size w w' from hb)))
  obtain ⟨z, p, why, hx⟩ : ∃ z p why, headR l = (z, p, why) := ⟨_, _, _, rfl⟩
  rw [hx] at HH hO hh
  unfold headV at HH
  have hne : (why != 0) = true := by simpa using hh
  have HBADR := hid (show ∀ w', Below w.heap.size w w' → ReadP l w (.returned (.agg (ansB p why))) w' from fun w' hb => readP_bad hh hO hb)
  have HZ0 := hid (show (w.alloc (.cells ansZ 61)).heap[w.heap.size]? = some (.cells ansZ 61 (0, 0)) from heap_alloc_new _ _)
  clear hO hh hx hS
  unfold ansB at HH
  go_enter Tryd.func22, Tryd.ntmps22
  go_wp2_with (first | (go_at_call 34; refine (HH.out _ (ball _ _)).mono ?_; rintro e w1 ⟨rfl, hb⟩; have HB1 := hid hb; clear hb; refine Hid.out ?_))
  have HZ2 := hid (show (w1.alloc (.cells (ansB p why) 61)).heap[w.heap.size]? = some (.cells ansZ 61 (0, 0)) from row_on (row_on HZ0.out HB1.out) (ball _ _))
  have HW2 := hid (show Below w.heap.size w (w1.alloc (.cells (ansB p why) 61)) from btr' (btr' (ball _ _) HB1.out) (ball _ _))
  obtain ⟨x0, x1, x2, x3, x4, x5⟩ := cells67 (show (w1.alloc (.cells (ansB p why) 61)).heap[w1.heap.size]? = some (.cells #[.string ⟨#[]⟩, .slice none 0 0, .int .i64 p, .int .i64 why, .bool false, .int .i64 0] 61 (0, 0)) from heap_alloc_new _ _)
  unfold ansB at HZ2 HW2 x0 x1 x2 x3 x4 x5
  clear HZ0 HB1
  refine Lib.hid ?_
  go_wp2_with (first | (refine wpList_st (by rfl) 61 (.tmp 2) (.tmp 18) (by rfl) w.heap.size (ansB p why) (by rfl) (by rfl) 61 ansZ HZ2.out info67 rfl (by simp [ansB, Value.oneCell']) ?_; intro w5 hst; have HST := hid hst; clear hst; refine Hid.out ?_))
  refine Lib.hid ?_
  go_wp2
  exact bodyPost_ret (results_cell_row (fn := Tryd.f22) Tryd.results22 _ _ w.heap.size 61 (ansB p why) (0, 0) _ (by rfl) HST.out.row Tryd.underlying61 rfl info67) rfl (HBADR.out _ (HST.out.bel _ _ HW2.out (Nat.le_refl _)))
theorem set45 {w : World} {G : Nat} {a b c d e f x y : Value} (h : w.heap[G]? = some (.cells #[a, b, c, d, e, f] 61 (0, 0))) : ((w.setCell ⟨G, 4, none⟩ x).setCell ⟨G, 5, none⟩ y).heap[G]? = some (.cells #[a, b, c, d, x, y] 61 (0, 0)) := by
  have h1 := heap_setCell_same w G 4 _ 61 x h
  have h2 := heap_setCell_same (w.setCell ⟨G, 4, none⟩ x) G 5 _ 61 y h1
  rw [h2]
  rfl
theorem set452 {w : World} {G : Nat} {a b c d e f x y z : Value} (h : w.heap[G]? = some (.cells #[a, b, c, d, e, f] 61 (0, 0))) : (((w.setCell ⟨G, 4, none⟩ x).setCell ⟨G, 5, none⟩ y).setCell ⟨G, 2, none⟩ z).heap[G]? = some (.cells #[a, b, z, d, x, y] 61 (0, 0)) := by
  have h1 := heap_setCell_same _ G 2 _ 61 z (set45 (x := x) (y := y) h)
  rw [h1]
  rfl
theorem last_of {l : List UInt8} {f p : Nat} (h : l[p - 1]? = some 1) (hf : f < p) (hp : p ≤ l.length) : ((l.drop f).take (p - f)).getLast? = some 1 := by
  rw [List.getLast?_eq_getElem?]
  have hlen : ((l.drop f).take (p - f)).length = p - f := by simp; omega
  rw [hlen, List.getElem?_take, if_pos (by omega), List.getElem?_drop, show f + (p - f - 1) = p - 1 by omega]
  exact h
/-- what is left behind the answer's last cells. -/
theorem own_end {w w4 w5 w6 w7 w8 : World} {G : Nat} {t1 t2 : TypeId} {c1 c2 : Array Value} {v : Value} {tg : List (Int × List UInt8)} (hO : OwnT w4.heap.size w4 w5 v tg) (hW : Below w.heap.size w w4) (hG : w.heap.size < G) (hG4 : G < w4.heap.size)
    (h6 : St w5 G t1 c1 w6) (h7 : ∀ k, k ≠ G → w7.heap[k]? = w6.heap[k]?) (hs7 : w7.heap.size = w6.heap.size) (hb7 : Below w.heap.size w w6 → Below w.heap.size w w7) (h8 : St w7 w.heap.size t2 c2 w8) : OwnT w.heap.size w w8 v tg := by
  have b5 : Below w.heap.size w w5 := hW.trans (hO.2.1.mono hW.size)
  have b8 := h8.bel _ _ (hb7 (h6.bel _ _ b5 (by omega))) (Nat.le_refl _)
  exact hO.same hW.size (fun k hk => by rw [h8.oth k (by omega), h7 k (by omega), h6.oth k (by omega)]) (by rw [h8.siz, hs7, h6.siz]) b8
set_option maxHeartbeats 4000000 in
set_option maxRecDepth 100000 in
theorem read_ok (l : List UInt8) (b o : Nat) (cap : Nat) (w : World) (hl : l.length < 4611686018427387904) (hcap : l.length ≤ cap) (hcm : cap < 9223372036854775808) (hS : Sb w (some ⟨b, o, none⟩) l) (f s : Nat) (hh : headR l = ((f, s), 0, 0)) :
    Calls Tryd.prog 22 #[.slice (some ⟨b, o, none⟩) l.length cap] w fun e w' => ReadP l w e w' := by
  obtain ⟨_, hb0, hf1, hf2, hfl, hs, ho1, ho2⟩ := headR_ok hh
  have HH := hid (fun w' hb => head_any l (some ⟨b, o, none⟩) cap w' hl hcap hcm (hS.on (show Below w.heap.size w w' from hb)))
  have HS := hid hS
  have BA := hid bad_any
  rw [hh] at HH
  unfold headV ansB at HH
  have HBADR := hid (show ∀ (p : Nat) (why : Int), why ≠ 0 → outE l = ((0, 0), p, why) → ∀ w', Below w.heap.size w w' → ReadP l w (.returned (.agg (ansB p why))) w' from fun p why hw hO w' hb => readP_bad hw hO hb)
  have HZ0 := hid (show (w.alloc (.cells ansZ 61)).heap[w.heap.size]? = some (.cells ansZ 61 (0, 0)) from heap_alloc_new _ _)
  clear hS hh
  have HO2 := hid (fun h => outE_of hb0 (ho2 h))
  have HO1 := hid ho1
  clear ho1 ho2 hb0
  go_enter Tryd.func22, Tryd.ntmps22
  go_wp2_with (first | (go_at_call 34; refine (HH.out _ (ball _ _)).mono ?_; rintro e w1 ⟨rfl, hb⟩; have HB1 := hid hb; clear hb; refine Hid.out ?_))
  have HZ2 := hid (show (w1.alloc (.cells (ansB 0 0) 61)).heap[w.heap.size]? = some (.cells ansZ 61 (0, 0)) from row_on (row_on HZ0.out HB1.out) (ball _ _))
  have HW2 := hid (show Below w.heap.size w (w1.alloc (.cells (ansB 0 0) 61)) from btr' (btr' (ball _ _) HB1.out) (ball _ _))
  have HA2 := hid (show (w1.alloc (.cells (ansB 0 0) 61)).heap[w1.heap.size]? = some (.cells #[.string ⟨#[]⟩, .slice none 0 0, .int .i64 0, .int .i64 0, .bool false, .int .i64 0] 61 (0, 0)) from heap_alloc_new _ _)
  have hG : w.heap.size < w1.heap.size := by have := HB1.out.size; simp at this; omega
  obtain ⟨x0, x1, x2, x3, x4, x5⟩ := cells67 HA2.out
  unfold ansB at HZ2 HW2 HA2 x0 x1 x2 x3 x4 x5
  clear HZ0 HB1
  refine Lib.hid ?_
  obtain ⟨p, hp⟩ : ∃ p, f + s = p := ⟨_, rfl⟩
  have hpi : (f : Int) + (s : Int) = (p : Int) := by omega
  by_cases hbig : 2048 < f + s + 7
  · have HO := hid (HO1.out hbig)
    have hb2 : (2048 : Int) < (p : Int) + 7 := by omega
    clear HO1 HO2 hbig
    go_wp2_with (first | (go_at_call 35; refine (BA.out _ _ _).mono ?_; rintro e w3 ⟨rfl, hb⟩; have HB3 := hid hb; clear hb; refine Hid.out ?_))
    have HZ3 := hid (row_on HZ2.out HB3.out)
    have HW3 := hid (btr' HW2.out HB3.out)
    clear HB3
    refine Lib.hid ?_
    go_wp2_with (first | (refine wpList_st (by rfl) 61 (.tmp 2) (.tmp 24) (by rfl) w.heap.size (ansB 10 2) (by rfl) (by rfl) 61 ansZ HZ3.out info67 rfl (by simp [ansB, Value.oneCell']) ?_; intro w5 hst; have HST := hid hst; clear hst; refine Hid.out ?_))
    refine Lib.hid ?_
    go_wp2
    exact bodyPost_ret (results_cell_row (fn := Tryd.f22) Tryd.results22 _ _ w.heap.size 61 (ansB 10 2) (0, 0) _ (by rfl) HST.out.row Tryd.underlying61 rfl info67) rfl (HBADR.out 10 2 (by decide) HO.out _ (HST.out.bel _ _ HW3.out (Nat.le_refl _)))
  · have hb2 : ¬ (2048 : Int) < (p : Int) + 7 := by omega
    have HO := hid (HO2.out (by omega))
    rw [hp] at HO
    clear HO1 HO2 hbig
    by_cases hsh : l.length < p + 7
    · rw [if_pos hsh] at HO
      have hs2 : (l.length : Int) < (p : Int) + 7 := by omega
      go_wp2_with (first | (go_at_call 35; refine (BA.out _ _ _).mono ?_; rintro e w3 ⟨rfl, hb⟩; have HB3 := hid hb; clear hb; refine Hid.out ?_))
      have HZ3 := hid (row_on HZ2.out HB3.out)
      have HW3 := hid (btr' HW2.out HB3.out)
      clear HB3
      refine Lib.hid ?_
      go_wp2_with (first | (refine wpList_st (by rfl) 61 (.tmp 2) (.tmp 35) (by rfl) w.heap.size (ansB l.length 20) (by rfl) (by rfl) 61 ansZ HZ3.out info67 rfl (by simp [ansB, Value.oneCell']) ?_; intro w5 hst; have HST := hid hst; clear hst; refine Hid.out ?_))
      refine Lib.hid ?_
      go_wp2
      exact bodyPost_ret (results_cell_row (fn := Tryd.f22) Tryd.results22 _ _ w.heap.size 61 (ansB l.length 20) (0, 0) _ (by rfl) HST.out.row Tryd.underlying61 rfl info67) rfl (HBADR.out l.length 20 (by decide) HO.out _ (HST.out.bel _ _ HW3.out (Nat.le_refl _)))
    · rw [if_neg hsh] at HO
      have hs2 : ¬ (l.length : Int) < (p : Int) + 7 := by omega
      obtain ⟨c0, c1, c2, c3, c4, c5, c6, hTK⟩ := list7b (show ((l.drop p).take 7).length = 7 by simp; omega)
      rw [hTK] at HO
      have HSW := hid (HS.out.on HW2.out)
      have hT := ((HSW.out.drop p).take 7)
      rw [hTK] at hT
      have y3 : (w1.alloc (.cells #[.string ⟨#[]⟩, .slice none 0 0, .int .i64 0, .int .i64 0, .bool false, .int .i64 0] 61)).cell? ⟨b, o + p + 3, none⟩ = some (.int .u8 (c3.toNat : Int)) := hT.at 3 (by simp)
      have y4 : (w1.alloc (.cells #[.string ⟨#[]⟩, .slice none 0 0, .int .i64 0, .int .i64 0, .bool false, .int .i64 0] 61)).cell? ⟨b, o + p + 4, none⟩ = some (.int .u8 (c4.toNat : Int)) := hT.at 4 (by simp)
      have y5 : (w1.alloc (.cells #[.string ⟨#[]⟩, .slice none 0 0, .int .i64 0, .int .i64 0, .bool false, .int .i64 0] 61)).cell? ⟨b, o + p + 5, none⟩ = some (.int .u8 (c5.toNat : Int)) := hT.at 5 (by simp)
      have y6 : (w1.alloc (.cells #[.string ⟨#[]⟩, .slice none 0 0, .int .i64 0, .int .i64 0, .bool false, .int .i64 0] 61)).cell? ⟨b, o + p + 6, none⟩ = some (.int .u8 (c6.toNat : Int)) := hT.at 6 (by simp)
      have cv3 : (convert 26 9 (.slice (some ⟨b, o + p, none⟩) 3 (cap - p))).run Tryd.prog (w1.alloc (.cells #[.string ⟨#[]⟩, .slice none 0 0, .int .i64 0, .int .i64 0, .bool false, .int .i64 0] 61)) = .ok (.string ⟨#[c0, c1, c2]⟩) (w1.alloc (.cells #[.string ⟨#[]⟩, .slice none 0 0, .int .i64 0, .int .i64 0, .bool false, .int .i64 0] 61)) := conv_sb (hT.take 3) (cap - p)
      have HCV := hid (show ∀ w', Below w.heap.size w w' → (convert 26 9 (.slice (some ⟨b, o + p + 3, none⟩) 3 (cap - p - 3))).run Tryd.prog w' = .ok (.string ⟨#[c3, c4, c5]⟩) w' from fun w' hb => by
        have h := (((HS.out.on hb).drop p).take 7)
        rw [hTK] at h
        exact conv_sb ((h.drop 3).take 3) (cap - p - 3))
      have k1 : (0 : Int) ≤ (p : Int) := by omega
      have k2 : (p : Int) ≤ (p : Int) + 7 := by omega
      have k3 : (p : Int) + 7 ≤ (cap : Int) := by omega
      have k4 : ((p : Int) + 7).toNat - p = 7 := by omega
      have k5 : ¬ cap = p := by omega
      have k6 : (3 : Int) ≤ ((cap - p : Nat) : Int) := by omega
      have k7 : (6 : Int) ≤ ((cap - p : Nat) : Int) := by omega
      have j0 : (0 : Int) ≤ (p : Int) - 1 := by omega
      have j1 : (p : Int) - 1 < (l.length : Int) := by omega
      have j2 : (p : Int) ≤ (cap : Int) := by omega
      have j3 : ((p : Int) - 1).toNat = p - 1 := by omega
      have hlt1 : p - 1 < l.length := by omega
      have yl := HSW.out.at (p - 1) hlt1
      obtain ⟨c, hc⟩ : ∃ c, l[p - 1]'hlt1 = c := ⟨_, rfl⟩
      rw [hc] at yl
      have HL1 := hid (show l[p - 1]? = some c by rw [List.getElem?_eq_getElem hlt1, hc])
      rw [HL1.out] at HO
      have H32 := hid (show (¬ ([c0, c1, c2] = [49, 48, 61] ∧ (Dig c3 ∧ Dig c4 ∧ Dig c5) ∧ c6 = 1) ∨ f = p ∨ some c ≠ some 1) → outE l = ((0, 0), p, 32) from fun h => by rw [HO.out, if_pos (by rw [trailOk_iff]; exact h)])
      clear hT hc
      by_cases d3 : Dig c3
      · obtain ⟨g3a, g3b⟩ : (48 : Int) ≤ (c3.toNat : Int) ∧ (c3.toNat : Int) ≤ 57 := by have h := d3; unfold Dig at h; omega
        by_cases d4 : Dig c4
        · obtain ⟨g4a, g4b⟩ : (48 : Int) ≤ (c4.toNat : Int) ∧ (c4.toNat : Int) ≤ 57 := by have h := d4; unfold Dig at h; omega
          by_cases d5 : Dig c5
          · obtain ⟨g5a, g5b⟩ : (48 : Int) ≤ (c5.toNat : Int) ∧ (c5.toNat : Int) ≤ 57 := by have h := d5; unfold Dig at h; omega
            by_cases e10 : [c0, c1, c2] = [49, 48, 61]
            · simp only [List.cons.injEq, and_true] at e10
              obtain ⟨rfl, rfl, rfl⟩ := e10
              by_cases h6 : c6 = 1
              · subst h6
                have h61 : (((1 : UInt8).toNat : Int) != 1) = false := by decide
                by_cases hs0 : s = 0
                · have H3 := hid (H32.out (Or.inr (Or.inl (by omega))))
                  have hs1 : ((s : Int) == 0) = true := by simp; omega
                  clear H32 HO hs0
                  go_wp2_with (first | (go_at_call 35; refine (BA.out _ _ _).mono ?_; rintro e w3 ⟨rfl, hb⟩; have HB3 := hid hb; clear hb; refine Hid.out ?_))
                  have HZ3 := hid (row_on HZ2.out HB3.out)
                  have HW3 := hid (btr' HW2.out HB3.out)
                  clear HB3
                  refine Lib.hid ?_
                  go_wp2_with (first | (refine wpList_st (by rfl) 61 (.tmp 2) (.tmp 102) (by rfl) w.heap.size (ansB p 32) (by rfl) (by rfl) 61 ansZ HZ3.out info67 rfl (by simp [ansB, Value.oneCell']) ?_; intro w5 hst; have HST := hid hst; clear hst; refine Hid.out ?_))
                  refine Lib.hid ?_
                  go_wp2
                  exact bodyPost_ret (results_cell_row (fn := Tryd.f22) Tryd.results22 _ _ w.heap.size 61 (ansB p 32) (0, 0) _ (by rfl) HST.out.row Tryd.underlying61 rfl info67) rfl (HBADR.out p 32 (by decide) H3.out _ (HST.out.bel _ _ HW3.out (Nat.le_refl _)))
                · have hs1 : ((s : Int) == 0) = false := by simp; omega
                  by_cases hc1 : c = 1
                  · subst hc1
                    have hcc : (((1 : UInt8).toNat : Int) != 1) = false := by decide
                    rw [if_neg (by rintro (h | h | h); exact h ((trailOk_iff _ _ _ _ _ _ _).2 ⟨rfl, ⟨d3, d4, d5⟩, rfl⟩); omega; exact h rfl)] at HO
                    have HPA := hid (fun w' hb => parts_any l b o cap f p w' (by omega) (by omega) (by omega) hl hcap hcm (last_of HL1.out (by omega) (by omega)) (HS.out.on (show Below w.heap.size w w' from hb)))
                    have hlp : (l.take p).length = p := by simp; omega
                    have HSU := hid (fun w' hb => rsum_any (l.take p) (some ⟨b, o, none⟩) cap w' (by omega) ((HS.out.on (show Below w.heap.size w w' from hb)).take p))
                    rw [hlp] at HSU
                    have HTH := hid (fun w' => three_any (sumB (l.take p)) w' (sumB_lt _))
                    have HBR := hid (trailB_iff c3 c4 c5 (l.take p))
                    obtain ⟨D, hD⟩ : ∃ D, (decDigits (1000 + sumB (l.take p))).drop 1 = D := ⟨_, rfl⟩
                    rw [hD] at HTH HBR
                    clear H32 hs0 hD hlp d3 d4 d5
                    by_cases hsum : [c3, c4, c5] = D
                    · rw [if_neg (by simpa using HBR.out.2 hsum)] at HO
                      obtain rfl := hsum
                      obtain ⟨R, hR⟩ : ∃ R, bodyR ((l.drop f).take (p - f)) ((l.drop f).take (p - f)) 0 0 [] [] = R := ⟨_, rfl⟩
                      rw [hR] at HPA
                      have HDE := hid (show decR l = if R.2.2.2 ≠ 0 then ([], [], f + R.2.2.1, R.2.2.2) else (R.1, R.2.1, p + 7, 0) by unfold decR; rw [HO.out]; simp only [ne_eq, not_true_eq_false, if_false]; rw [hR])
                      have e3 : ((p + 7 : Nat) : Int) = (p : Int) + 7 := by omega
                      have HE3 := hid e3
                      clear hR HBR e3
                      obtain ⟨kd, tg, pl, why⟩ := R
                      simp only at HDE
                      unfold PartP at HPA
                      by_cases hw : why = 0
                      · subst hw
                        have HPO := hid (show ∀ w' (hb : Below w.heap.size w w'), Calls Tryd.prog 38 #[.slice (some ⟨b, o, none⟩) l.length cap, .int .i64 f, .int .i64 p] w' fun e w'' => ∃ v, e = .returned (.agg (ansV kd v 0 0 false 0)) ∧ OwnT w'.heap.size w' w'' v tg from fun w' hb => (HPA.out w' hb).mono (by
                          rintro e w'' ⟨_, ⟨h, _⟩ | ⟨_, h⟩⟩
                          · exact absurd rfl h
                          · exact h))
                        have HFIN := hid (show ∀ v w8, OwnT w.heap.size w w8 v tg → ReadP l w (.returned (.agg (ansV kd v ((p : Int) + 7) 0 true ((p : Int) + 7)))) w8 from fun v w8 h => by
                          have e1 : decR l = (kd, tg, p + 7, 0) := by rw [HDE.out]; simp
                          refine ⟨v, ?_, by rw [e1]; exact h⟩
                          rw [e1, HO.out]
                          simp only [decide_true, if_true, HE3.out])
                        clear HPA HDE HO HE3
                        go_wp2
                        have HDR := hid (show Below w.heap.size w (w1.alloc (.cells #[.string ⟨#[]⟩, .slice none 0 0, .int .i64 0, .int .i64 0, .bool false, .int .i64 0] 61)).drew from Below.drew HW2.out)
                        have cvd := HCV.out _ HDR.out
                        go_region_with (first | (go_at_call 37; refine (HSU.out _ HDR.out).mono ?_; rintro e w3 ⟨rfl, rfl⟩) | (go_at_call 36; refine (HTH.out _).mono ?_; rintro e w4 ⟨rfl, hb⟩; have HB4 := hid hb; clear hb; have cv4 := HCV.out _ (btr' HDR.out HB4.out)))
                        all_goals
                          replace HZ2 := hid (row_on (show (w1.alloc (.cells #[.string ⟨#[]⟩, .slice none 0 0, .int .i64 0, .int .i64 0, .bool false, .int .i64 0] 61)).drew.heap[w.heap.size]? = some (.cells ansZ 61 (0, 0)) from HZ2.out) HB4.out)
                          replace HW2 := hid (btr' HDR.out HB4.out)
                          replace HA2 := hid (row_on (show (w1.alloc (.cells #[.string ⟨#[]⟩, .slice none 0 0, .int .i64 0, .int .i64 0, .bool false, .int .i64 0] 61)).drew.heap[w1.heap.size]? = some (.cells #[.string ⟨#[]⟩, .slice none 0 0, .int .i64 0, .int .i64 0, .bool false, .int .i64 0] 61 (0, 0)) from HA2.out) HB4.out)
                          have hG4 : w1.heap.size < w4.heap.size := row_lt HA2.out
                          clear HB4 HDR cvd cv4 x0 x1 x2 x3 x4 x5 y3 y4 y5 y6 yl cv3
                          go_wp2_with (first | (go_at_call 38; refine (HPO.out _ HW2.out).mono ?_; rintro e w5 ⟨v, rfl, hO⟩; obtain ⟨qv, cv, rfl, _, _, _⟩ := hO.form; have HOO := hid hO; clear hO; refine Hid.out ?_))
                          have HA5 := hid (row_on HA2.out (HOO.out.2.1))
                          have HZ5 := hid (row_on HZ2.out (HOO.out.2.1))
                          refine Lib.hid ?_
                          go_wp2_with (first | (refine wpList_st (by rfl) 61 (.tmp 5) (.tmp 117) (by rfl) w1.heap.size (ansV kd (.slice qv tg.length cv) 0 0 false 0) (by rfl) (by rfl) 61 _ HA5.out info67 rfl (by simp [ansB, ansV, Value.oneCell']) ?_; intro w6 hst; have HS6 := hid hst; clear hst; refine Hid.out ?_))
                          obtain ⟨x0, x1, x2, x3, x4, x5⟩ := cells67 HS6.out.row
                          have f2 := frozen_of_row w6 w1.heap.size 2 _ _ HS6.out.row
                          have f4 := frozen_of_row w6 w1.heap.size 4 _ _ HS6.out.row
                          have f5 := frozen_of_row w6 w1.heap.size 5 _ _ HS6.out.row
                          have HZ7 := hid (show (((w6.setCell ⟨w1.heap.size, 4, none⟩ (.bool true)).setCell ⟨w1.heap.size, 5, none⟩ (.int .i64 ((p : Int) + 7))).setCell ⟨w1.heap.size, 2, none⟩ (.int .i64 ((p : Int) + 7))).heap[w.heap.size]? = some (.cells ansZ 61 (0, 0)) by rw [heap_setCell_other _ _ _ _ (by show w.heap.size ≠ w1.heap.size; omega), heap_setCell_other _ _ _ _ (by show w.heap.size ≠ w1.heap.size; omega), heap_setCell_other _ _ _ _ (by show w.heap.size ≠ w1.heap.size; omega), HS6.out.oth _ (by omega)]; exact HZ5.out)
                          refine Lib.hid ?_
                          go_wp2_with (first | (refine wpList_st (by rfl) 61 (.tmp 2) (.tmp 128) (by rfl) w.heap.size (ansV kd (.slice qv tg.length cv) ((p : Int) + 7) 0 true ((p : Int) + 7)) (by rfl) (by rfl) 61 ansZ HZ7.out info67 rfl (by simp [ansV, Value.oneCell']) ?_; intro w8 hst; have HST := hid hst; clear hst; refine Hid.out ?_))
                          refine Lib.hid ?_
                          go_wp2
                          exact bodyPost_ret (results_cell_row (fn := Tryd.f22) Tryd.results22 _ _ w.heap.size 61 (ansV kd (.slice qv tg.length cv) ((p : Int) + 7) 0 true ((p : Int) + 7)) (0, 0) _ (by rfl) HST.out.row Tryd.underlying61 rfl info67) rfl (HFIN.out _ _ (own_end HOO.out HW2.out hG hG4 HS6.out (fun k hk => by rw [heap_setCell_other _ _ _ _ (by show k ≠ w1.heap.size; exact hk), heap_setCell_other _ _ _ _ (by show k ≠ w1.heap.size; exact hk), heap_setCell_other _ _ _ _ (by show k ≠ w1.heap.size; exact hk)]) (by simp) (fun h => (((h).setCell (by show w.heap.size ≤ w1.heap.size; omega) _).setCell (by show w.heap.size ≤ w1.heap.size; omega) _).setCell (by show w.heap.size ≤ w1.heap.size; omega) _) HST.out))
                      · have HPO := hid (show ∀ w' (hb : Below w.heap.size w w'), Calls Tryd.prog 38 #[.slice (some ⟨b, o, none⟩) l.length cap, .int .i64 f, .int .i64 p] w' fun e w'' => e = .returned (.agg (ansB ((f + pl : Nat)) why)) ∧ OwnT w'.heap.size w' w'' (.slice none 0 0) [] from fun w' hb => (HPA.out w' hb).mono (by
                          rintro e w'' ⟨hb2, ⟨_, h⟩ | ⟨h, _⟩⟩
                          · exact ⟨h, ownT_nilB hb2⟩
                          · exact absurd h hw))
                        have HFIN := hid (show ∀ v w8, OwnT w.heap.size w w8 v [] → ReadP l w (.returned (.agg (ansV [] v ((f + pl : Nat) : Int) why true ((p : Int) + 7)))) w8 from fun v w8 h => by
                          have e1 : decR l = ([], [], f + pl, why) := by rw [HDE.out, if_pos hw]
                          refine ⟨v, ?_, by rw [e1]; exact h⟩
                          rw [e1, HO.out]
                          simp only [decide_true, if_true, HE3.out])
                        have hwb : (why == 0) = false := by simpa using hw
                        clear HPA HDE HO HE3 hw
                        go_wp2
                        have HDR := hid (show Below w.heap.size w (w1.alloc (.cells #[.string ⟨#[]⟩, .slice none 0 0, .int .i64 0, .int .i64 0, .bool false, .int .i64 0] 61)).drew from Below.drew HW2.out)
                        have cvd := HCV.out _ HDR.out
                        go_region_with (first | (go_at_call 37; refine (HSU.out _ HDR.out).mono ?_; rintro e w3 ⟨rfl, rfl⟩) | (go_at_call 36; refine (HTH.out _).mono ?_; rintro e w4 ⟨rfl, hb⟩; have HB4 := hid hb; clear hb; have cv4 := HCV.out _ (btr' HDR.out HB4.out)))
                        all_goals
                          replace HZ2 := hid (row_on (show (w1.alloc (.cells #[.string ⟨#[]⟩, .slice none 0 0, .int .i64 0, .int .i64 0, .bool false, .int .i64 0] 61)).drew.heap[w.heap.size]? = some (.cells ansZ 61 (0, 0)) from HZ2.out) HB4.out)
                          replace HW2 := hid (btr' HDR.out HB4.out)
                          replace HA2 := hid (row_on (show (w1.alloc (.cells #[.string ⟨#[]⟩, .slice none 0 0, .int .i64 0, .int .i64 0, .bool false, .int .i64 0] 61)).drew.heap[w1.heap.size]? = some (.cells #[.string ⟨#[]⟩, .slice none 0 0, .int .i64 0, .int .i64 0, .bool false, .int .i64 0] 61 (0, 0)) from HA2.out) HB4.out)
                          have hG4 : w1.heap.size < w4.heap.size := row_lt HA2.out
                          clear HB4 HDR cvd cv4 x0 x1 x2 x3 x4 x5 y3 y4 y5 y6 yl cv3
                          go_wp2_with (first | (go_at_call 38; refine (HPO.out _ HW2.out).mono ?_; rintro e w5 ⟨rfl, hO⟩; have HOO := hid hO; clear hO; refine Hid.out ?_))
                          have HA5 := hid (row_on HA2.out (HOO.out.2.1))
                          have HZ5 := hid (row_on HZ2.out (HOO.out.2.1))
                          refine Lib.hid ?_
                          go_wp2_with (first | (refine wpList_st (by rfl) 61 (.tmp 5) (.tmp 117) (by rfl) w1.heap.size (ansB ((f + pl : Nat)) why) (by rfl) (by rfl) 61 _ HA5.out info67 rfl (by simp [ansB, ansV, Value.oneCell']) ?_; intro w6 hst; have HS6 := hid hst; clear hst; refine Hid.out ?_))
                          obtain ⟨x0, x1, x2, x3, x4, x5⟩ := cells67 HS6.out.row
                          have f2 := frozen_of_row w6 w1.heap.size 2 _ _ HS6.out.row
                          have f4 := frozen_of_row w6 w1.heap.size 4 _ _ HS6.out.row
                          have f5 := frozen_of_row w6 w1.heap.size 5 _ _ HS6.out.row
                          have HZ7 := hid (show ((w6.setCell ⟨w1.heap.size, 4, none⟩ (.bool true)).setCell ⟨w1.heap.size, 5, none⟩ (.int .i64 ((p : Int) + 7))).heap[w.heap.size]? = some (.cells ansZ 61 (0, 0)) by rw [heap_setCell_other _ _ _ _ (by show w.heap.size ≠ w1.heap.size; omega), heap_setCell_other _ _ _ _ (by show w.heap.size ≠ w1.heap.size; omega), HS6.out.oth _ (by omega)]; exact HZ5.out)
                          refine Lib.hid ?_
                          go_wp2_with (first | (refine wpList_st (by rfl) 61 (.tmp 2) (.tmp 128) (by rfl) w.heap.size (ansV [] (.slice none 0 0) ((f + pl : Nat) : Int) why true ((p : Int) + 7)) (by rfl) (by rfl) 61 ansZ HZ7.out info67 rfl (by simp [ansV, Value.oneCell']) ?_; intro w8 hst; have HST := hid hst; clear hst; refine Hid.out ?_))
                          refine Lib.hid ?_
                          go_wp2
                          exact bodyPost_ret (results_cell_row (fn := Tryd.f22) Tryd.results22 _ _ w.heap.size 61 (ansV [] (.slice none 0 0) ((f + pl : Nat) : Int) why true ((p : Int) + 7)) (0, 0) _ (by rfl) HST.out.row Tryd.underlying61 rfl info67) rfl (HFIN.out _ _ (own_end HOO.out HW2.out hG hG4 HS6.out (fun k hk => by rw [heap_setCell_other _ _ _ _ (by show k ≠ w1.heap.size; exact hk), heap_setCell_other _ _ _ _ (by show k ≠ w1.heap.size; exact hk)]) (by simp) (fun h => ((h).setCell (by show w.heap.size ≤ w1.heap.size; omega) _).setCell (by show w.heap.size ≤ w1.heap.size; omega) _) HST.out))
                    · rw [if_pos (fun h => hsum (HBR.out.1 h))] at HO
                      have hsn : ([c3, c4, c5] == D) = false := by simpa using hsum
                      clear hsum HPA HBR
                      go_wp2
                      have HDR := hid (show Below w.heap.size w (w1.alloc (.cells #[.string ⟨#[]⟩, .slice none 0 0, .int .i64 0, .int .i64 0, .bool false, .int .i64 0] 61)).drew from Below.drew HW2.out)
                      have cvd := HCV.out _ HDR.out
                      go_region_with (first | (go_at_call 37; refine (HSU.out _ HDR.out).mono ?_; rintro e w3 ⟨rfl, rfl⟩) | (go_at_call 36; refine (HTH.out _).mono ?_; rintro e w4 ⟨rfl, hb⟩; have HB4 := hid hb; clear hb; have cv4 := HCV.out _ (btr' HDR.out HB4.out)))
                      all_goals
                        replace HZ2 := hid (row_on (show (w1.alloc (.cells #[.string ⟨#[]⟩, .slice none 0 0, .int .i64 0, .int .i64 0, .bool false, .int .i64 0] 61)).drew.heap[w.heap.size]? = some (.cells ansZ 61 (0, 0)) from HZ2.out) HB4.out)
                        replace HW2 := hid (btr' HDR.out HB4.out)
                        clear HB4 HDR
                        go_wp2_with (first | (go_at_call 35; refine (BA.out _ _ _).mono ?_; rintro e w3 ⟨rfl, hb⟩; have HB3 := hid hb; clear hb; refine Hid.out ?_))
                        have HZ3 := hid (row_on HZ2.out HB3.out)
                        have HW3 := hid (btr' HW2.out HB3.out)
                        clear HB3
                        refine Lib.hid ?_
                        go_wp2_with (first | (refine wpList_st (by rfl) 61 (.tmp 2) (.tmp 113) (by rfl) w.heap.size (ansB p 33) (by rfl) (by rfl) 61 ansZ HZ3.out info67 rfl (by simp [ansB, Value.oneCell']) ?_; intro w5 hst; have HST := hid hst; clear hst; refine Hid.out ?_))
                        refine Lib.hid ?_
                        go_wp2
                        exact bodyPost_ret (results_cell_row (fn := Tryd.f22) Tryd.results22 _ _ w.heap.size 61 (ansB p 33) (0, 0) _ (by rfl) HST.out.row Tryd.underlying61 rfl info67) rfl (HBADR.out p 33 (by decide) HO.out _ (HST.out.bel _ _ HW3.out (Nat.le_refl _)))
                  · have H3 := hid (H32.out (Or.inr (Or.inr (by simpa using hc1))))
                    have hcc : ((c.toNat : Int) != 1) = true := by
                      simp
                      intro e
                      exact hc1 (UInt8.toNat_inj.1 (by simp; omega))
                    clear H32 HO hc1
                    go_wp2_with (first | (go_at_call 35; refine (BA.out _ _ _).mono ?_; rintro e w3 ⟨rfl, hb⟩; have HB3 := hid hb; clear hb; refine Hid.out ?_))
                    have HZ3 := hid (row_on HZ2.out HB3.out)
                    have HW3 := hid (btr' HW2.out HB3.out)
                    clear HB3
                    refine Lib.hid ?_
                    go_wp2_with (first | (refine wpList_st (by rfl) 61 (.tmp 2) (.tmp 102) (by rfl) w.heap.size (ansB p 32) (by rfl) (by rfl) 61 ansZ HZ3.out info67 rfl (by simp [ansB, Value.oneCell']) ?_; intro w5 hst; have HST := hid hst; clear hst; refine Hid.out ?_))
                    refine Lib.hid ?_
                    go_wp2
                    exact bodyPost_ret (results_cell_row (fn := Tryd.f22) Tryd.results22 _ _ w.heap.size 61 (ansB p 32) (0, 0) _ (by rfl) HST.out.row Tryd.underlying61 rfl info67) rfl (HBADR.out p 32 (by decide) H3.out _ (HST.out.bel _ _ HW3.out (Nat.le_refl _)))
              · have H3 := hid (H32.out (Or.inl (fun h => h6 h.2.2)))
                have h61 : ((c6.toNat : Int) != 1) = true := by
                  simp
                  intro e
                  exact h6 (UInt8.toNat_inj.1 (by simp; omega))
                clear H32 HO h6
                go_wp2_with (first | (go_at_call 35; refine (BA.out _ _ _).mono ?_; rintro e w3 ⟨rfl, hb⟩; have HB3 := hid hb; clear hb; refine Hid.out ?_))
                have HZ3 := hid (row_on HZ2.out HB3.out)
                have HW3 := hid (btr' HW2.out HB3.out)
                clear HB3
                refine Lib.hid ?_
                go_wp2_with (first | (refine wpList_st (by rfl) 61 (.tmp 2) (.tmp 102) (by rfl) w.heap.size (ansB p 32) (by rfl) (by rfl) 61 ansZ HZ3.out info67 rfl (by simp [ansB, Value.oneCell']) ?_; intro w5 hst; have HST := hid hst; clear hst; refine Hid.out ?_))
                refine Lib.hid ?_
                go_wp2
                exact bodyPost_ret (results_cell_row (fn := Tryd.f22) Tryd.results22 _ _ w.heap.size 61 (ansB p 32) (0, 0) _ (by rfl) HST.out.row Tryd.underlying61 rfl info67) rfl (HBADR.out p 32 (by decide) H3.out _ (HST.out.bel _ _ HW3.out (Nat.le_refl _)))
            · have H3 := hid (H32.out (Or.inl (fun h => e10 h.1)))
              have e11 : ([c0, c1, c2] == [49, 48, 61]) = false := by simpa using e10
              clear H32 HO e10
              go_wp2_with (first | (go_at_call 35; refine (BA.out _ _ _).mono ?_; rintro e w3 ⟨rfl, hb⟩; have HB3 := hid hb; clear hb; refine Hid.out ?_))
              have HZ3 := hid (row_on HZ2.out HB3.out)
              have HW3 := hid (btr' HW2.out HB3.out)
              clear HB3
              refine Lib.hid ?_
              go_wp2_with (first | (refine wpList_st (by rfl) 61 (.tmp 2) (.tmp 102) (by rfl) w.heap.size (ansB p 32) (by rfl) (by rfl) 61 ansZ HZ3.out info67 rfl (by simp [ansB, Value.oneCell']) ?_; intro w5 hst; have HST := hid hst; clear hst; refine Hid.out ?_))
              refine Lib.hid ?_
              go_wp2
              exact bodyPost_ret (results_cell_row (fn := Tryd.f22) Tryd.results22 _ _ w.heap.size 61 (ansB p 32) (0, 0) _ (by rfl) HST.out.row Tryd.underlying61 rfl info67) rfl (HBADR.out p 32 (by decide) H3.out _ (HST.out.bel _ _ HW3.out (Nat.le_refl _)))
          · skip
            obtain hg | ⟨hg1, hg2⟩ : (c5.toNat : Int) < 48 ∨ ((48 : Int) ≤ (c5.toNat : Int) ∧ (57 : Int) < (c5.toNat : Int)) := by unfold Dig at d5; omega
            · have hg3 : ¬ ((48 : Int) ≤ (c5.toNat : Int)) := by omega
              have H3 := hid (H32.out (Or.inl (fun h => d5 h.2.1.2.2)))
              by_cases e10 : [c0, c1, c2] = [49, 48, 61]
              · simp only [List.cons.injEq, and_true] at e10
                obtain ⟨rfl, rfl, rfl⟩ := e10
                clear H32 HO d5
                go_wp2_with (first | (go_at_call 35; refine (BA.out _ _ _).mono ?_; rintro e w3 ⟨rfl, hb⟩; have HB3 := hid hb; clear hb; refine Hid.out ?_))
                have HZ3 := hid (row_on HZ2.out HB3.out)
                have HW3 := hid (btr' HW2.out HB3.out)
                clear HB3
                refine Lib.hid ?_
                go_wp2_with (first | (refine wpList_st (by rfl) 61 (.tmp 2) (.tmp 102) (by rfl) w.heap.size (ansB p 32) (by rfl) (by rfl) 61 ansZ HZ3.out info67 rfl (by simp [ansB, Value.oneCell']) ?_; intro w5 hst; have HST := hid hst; clear hst; refine Hid.out ?_))
                refine Lib.hid ?_
                go_wp2
                exact bodyPost_ret (results_cell_row (fn := Tryd.f22) Tryd.results22 _ _ w.heap.size 61 (ansB p 32) (0, 0) _ (by rfl) HST.out.row Tryd.underlying61 rfl info67) rfl (HBADR.out p 32 (by decide) H3.out _ (HST.out.bel _ _ HW3.out (Nat.le_refl _)))
              · have e11 : ([c0, c1, c2] == [49, 48, 61]) = false := by simpa using e10
                clear H32 HO d5 e10
                go_wp2_with (first | (go_at_call 35; refine (BA.out _ _ _).mono ?_; rintro e w3 ⟨rfl, hb⟩; have HB3 := hid hb; clear hb; refine Hid.out ?_))
                have HZ3 := hid (row_on HZ2.out HB3.out)
                have HW3 := hid (btr' HW2.out HB3.out)
                clear HB3
                refine Lib.hid ?_
                go_wp2_with (first | (refine wpList_st (by rfl) 61 (.tmp 2) (.tmp 102) (by rfl) w.heap.size (ansB p 32) (by rfl) (by rfl) 61 ansZ HZ3.out info67 rfl (by simp [ansB, Value.oneCell']) ?_; intro w5 hst; have HST := hid hst; clear hst; refine Hid.out ?_))
                refine Lib.hid ?_
                go_wp2
                exact bodyPost_ret (results_cell_row (fn := Tryd.f22) Tryd.results22 _ _ w.heap.size 61 (ansB p 32) (0, 0) _ (by rfl) HST.out.row Tryd.underlying61 rfl info67) rfl (HBADR.out p 32 (by decide) H3.out _ (HST.out.bel _ _ HW3.out (Nat.le_refl _)))
            · have hg3 : ¬ ((c5.toNat : Int) ≤ 57) := by omega
              have H3 := hid (H32.out (Or.inl (fun h => d5 h.2.1.2.2)))
              by_cases e10 : [c0, c1, c2] = [49, 48, 61]
              · simp only [List.cons.injEq, and_true] at e10
                obtain ⟨rfl, rfl, rfl⟩ := e10
                clear H32 HO d5
                go_wp2_with (first | (go_at_call 35; refine (BA.out _ _ _).mono ?_; rintro e w3 ⟨rfl, hb⟩; have HB3 := hid hb; clear hb; refine Hid.out ?_))
                have HZ3 := hid (row_on HZ2.out HB3.out)
                have HW3 := hid (btr' HW2.out HB3.out)
                clear HB3
                refine Lib.hid ?_
                go_wp2_with (first | (refine wpList_st (by rfl) 61 (.tmp 2) (.tmp 102) (by rfl) w.heap.size (ansB p 32) (by rfl) (by rfl) 61 ansZ HZ3.out info67 rfl (by simp [ansB, Value.oneCell']) ?_; intro w5 hst; have HST := hid hst; clear hst; refine Hid.out ?_))
                refine Lib.hid ?_
                go_wp2
                exact bodyPost_ret (results_cell_row (fn := Tryd.f22) Tryd.results22 _ _ w.heap.size 61 (ansB p 32) (0, 0) _ (by rfl) HST.out.row Tryd.underlying61 rfl info67) rfl (HBADR.out p 32 (by decide) H3.out _ (HST.out.bel _ _ HW3.out (Nat.le_refl _)))
              · have e11 : ([c0, c1, c2] == [49, 48, 61]) = false := by simpa using e10
                clear H32 HO d5 e10
                go_wp2_with (first | (go_at_call 35; refine (BA.out _ _ _).mono ?_; rintro e w3 ⟨rfl, hb⟩; have HB3 := hid hb; clear hb; refine Hid.out ?_))
                have HZ3 := hid (row_on HZ2.out HB3.out)
                have HW3 := hid (btr' HW2.out HB3.out)
                clear HB3
                refine Lib.hid ?_
                go_wp2_with (first | (refine wpList_st (by rfl) 61 (.tmp 2) (.tmp 102) (by rfl) w.heap.size (ansB p 32) (by rfl) (by rfl) 61 ansZ HZ3.out info67 rfl (by simp [ansB, Value.oneCell']) ?_; intro w5 hst; have HST := hid hst; clear hst; refine Hid.out ?_))
                refine Lib.hid ?_
                go_wp2
                exact bodyPost_ret (results_cell_row (fn := Tryd.f22) Tryd.results22 _ _ w.heap.size 61 (ansB p 32) (0, 0) _ (by rfl) HST.out.row Tryd.underlying61 rfl info67) rfl (HBADR.out p 32 (by decide) H3.out _ (HST.out.bel _ _ HW3.out (Nat.le_refl _)))
        · skip
          obtain hg | ⟨hg1, hg2⟩ : (c4.toNat : Int) < 48 ∨ ((48 : Int) ≤ (c4.toNat : Int) ∧ (57 : Int) < (c4.toNat : Int)) := by unfold Dig at d4; omega
          · have hg3 : ¬ ((48 : Int) ≤ (c4.toNat : Int)) := by omega
            have H3 := hid (H32.out (Or.inl (fun h => d4 h.2.1.2.1)))
            by_cases e10 : [c0, c1, c2] = [49, 48, 61]
            · simp only [List.cons.injEq, and_true] at e10
              obtain ⟨rfl, rfl, rfl⟩ := e10
              clear H32 HO d4
              go_wp2_with (first | (go_at_call 35; refine (BA.out _ _ _).mono ?_; rintro e w3 ⟨rfl, hb⟩; have HB3 := hid hb; clear hb; refine Hid.out ?_))
              have HZ3 := hid (row_on HZ2.out HB3.out)
              have HW3 := hid (btr' HW2.out HB3.out)
              clear HB3
              refine Lib.hid ?_
              go_wp2_with (first | (refine wpList_st (by rfl) 61 (.tmp 2) (.tmp 102) (by rfl) w.heap.size (ansB p 32) (by rfl) (by rfl) 61 ansZ HZ3.out info67 rfl (by simp [ansB, Value.oneCell']) ?_; intro w5 hst; have HST := hid hst; clear hst; refine Hid.out ?_))
              refine Lib.hid ?_
              go_wp2
              exact bodyPost_ret (results_cell_row (fn := Tryd.f22) Tryd.results22 _ _ w.heap.size 61 (ansB p 32) (0, 0) _ (by rfl) HST.out.row Tryd.underlying61 rfl info67) rfl (HBADR.out p 32 (by decide) H3.out _ (HST.out.bel _ _ HW3.out (Nat.le_refl _)))
            · have e11 : ([c0, c1, c2] == [49, 48, 61]) = false := by simpa using e10
              clear H32 HO d4 e10
              go_wp2_with (first | (go_at_call 35; refine (BA.out _ _ _).mono ?_; rintro e w3 ⟨rfl, hb⟩; have HB3 := hid hb; clear hb; refine Hid.out ?_))
              have HZ3 := hid (row_on HZ2.out HB3.out)
              have HW3 := hid (btr' HW2.out HB3.out)
              clear HB3
              refine Lib.hid ?_
              go_wp2_with (first | (refine wpList_st (by rfl) 61 (.tmp 2) (.tmp 102) (by rfl) w.heap.size (ansB p 32) (by rfl) (by rfl) 61 ansZ HZ3.out info67 rfl (by simp [ansB, Value.oneCell']) ?_; intro w5 hst; have HST := hid hst; clear hst; refine Hid.out ?_))
              refine Lib.hid ?_
              go_wp2
              exact bodyPost_ret (results_cell_row (fn := Tryd.f22) Tryd.results22 _ _ w.heap.size 61 (ansB p 32) (0, 0) _ (by rfl) HST.out.row Tryd.underlying61 rfl info67) rfl (HBADR.out p 32 (by decide) H3.out _ (HST.out.bel _ _ HW3.out (Nat.le_refl _)))
          · have hg3 : ¬ ((c4.toNat : Int) ≤ 57) := by omega
            have H3 := hid (H32.out (Or.inl (fun h => d4 h.2.1.2.1)))
            by_cases e10 : [c0, c1, c2] = [49, 48, 61]
            · simp only [List.cons.injEq, and_true] at e10
              obtain ⟨rfl, rfl, rfl⟩ := e10
              clear H32 HO d4
              go_wp2_with (first | (go_at_call 35; refine (BA.out _ _ _).mono ?_; rintro e w3 ⟨rfl, hb⟩; have HB3 := hid hb; clear hb; refine Hid.out ?_))
              have HZ3 := hid (row_on HZ2.out HB3.out)
              have HW3 := hid (btr' HW2.out HB3.out)
              clear HB3
              refine Lib.hid ?_
              go_wp2_with (first | (refine wpList_st (by rfl) 61 (.tmp 2) (.tmp 102) (by rfl) w.heap.size (ansB p 32) (by rfl) (by rfl) 61 ansZ HZ3.out info67 rfl (by simp [ansB, Value.oneCell']) ?_; intro w5 hst; have HST := hid hst; clear hst; refine Hid.out ?_))
              refine Lib.hid ?_
              go_wp2
              exact bodyPost_ret (results_cell_row (fn := Tryd.f22) Tryd.results22 _ _ w.heap.size 61 (ansB p 32) (0, 0) _ (by rfl) HST.out.row Tryd.underlying61 rfl info67) rfl (HBADR.out p 32 (by decide) H3.out _ (HST.out.bel _ _ HW3.out (Nat.le_refl _)))
            · have e11 : ([c0, c1, c2] == [49, 48, 61]) = false := by simpa using e10
              clear H32 HO d4 e10
              go_wp2_with (first | (go_at_call 35; refine (BA.out _ _ _).mono ?_; rintro e w3 ⟨rfl, hb⟩; have HB3 := hid hb; clear hb; refine Hid.out ?_))
              have HZ3 := hid (row_on HZ2.out HB3.out)
              have HW3 := hid (btr' HW2.out HB3.out)
              clear HB3
              refine Lib.hid ?_
              go_wp2_with (first | (refine wpList_st (by rfl) 61 (.tmp 2) (.tmp 102) (by rfl) w.heap.size (ansB p 32) (by rfl) (by rfl) 61 ansZ HZ3.out info67 rfl (by simp [ansB, Value.oneCell']) ?_; intro w5 hst; have HST := hid hst; clear hst; refine Hid.out ?_))
              refine Lib.hid ?_
              go_wp2
              exact bodyPost_ret (results_cell_row (fn := Tryd.f22) Tryd.results22 _ _ w.heap.size 61 (ansB p 32) (0, 0) _ (by rfl) HST.out.row Tryd.underlying61 rfl info67) rfl (HBADR.out p 32 (by decide) H3.out _ (HST.out.bel _ _ HW3.out (Nat.le_refl _)))
      · skip
        obtain hg | ⟨hg1, hg2⟩ : (c3.toNat : Int) < 48 ∨ ((48 : Int) ≤ (c3.toNat : Int) ∧ (57 : Int) < (c3.toNat : Int)) := by unfold Dig at d3; omega
        · have hg3 : ¬ ((48 : Int) ≤ (c3.toNat : Int)) := by omega
          have H3 := hid (H32.out (Or.inl (fun h => d3 h.2.1.1)))
          by_cases e10 : [c0, c1, c2] = [49, 48, 61]
          · simp only [List.cons.injEq, and_true] at e10
            obtain ⟨rfl, rfl, rfl⟩ := e10
            clear H32 HO d3
            go_wp2_with (first | (go_at_call 35; refine (BA.out _ _ _).mono ?_; rintro e w3 ⟨rfl, hb⟩; have HB3 := hid hb; clear hb; refine Hid.out ?_))
            have HZ3 := hid (row_on HZ2.out HB3.out)
            have HW3 := hid (btr' HW2.out HB3.out)
            clear HB3
            refine Lib.hid ?_
            go_wp2_with (first | (refine wpList_st (by rfl) 61 (.tmp 2) (.tmp 102) (by rfl) w.heap.size (ansB p 32) (by rfl) (by rfl) 61 ansZ HZ3.out info67 rfl (by simp [ansB, Value.oneCell']) ?_; intro w5 hst; have HST := hid hst; clear hst; refine Hid.out ?_))
            refine Lib.hid ?_
            go_wp2
            exact bodyPost_ret (results_cell_row (fn := Tryd.f22) Tryd.results22 _ _ w.heap.size 61 (ansB p 32) (0, 0) _ (by rfl) HST.out.row Tryd.underlying61 rfl info67) rfl (HBADR.out p 32 (by decide) H3.out _ (HST.out.bel _ _ HW3.out (Nat.le_refl _)))
          · have e11 : ([c0, c1, c2] == [49, 48, 61]) = false := by simpa using e10
            clear H32 HO d3 e10
            go_wp2_with (first | (go_at_call 35; refine (BA.out _ _ _).mono ?_; rintro e w3 ⟨rfl, hb⟩; have HB3 := hid hb; clear hb; refine Hid.out ?_))
            have HZ3 := hid (row_on HZ2.out HB3.out)
            have HW3 := hid (btr' HW2.out HB3.out)
            clear HB3
            refine Lib.hid ?_
            go_wp2_with (first | (refine wpList_st (by rfl) 61 (.tmp 2) (.tmp 102) (by rfl) w.heap.size (ansB p 32) (by rfl) (by rfl) 61 ansZ HZ3.out info67 rfl (by simp [ansB, Value.oneCell']) ?_; intro w5 hst; have HST := hid hst; clear hst; refine Hid.out ?_))
            refine Lib.hid ?_
            go_wp2
            exact bodyPost_ret (results_cell_row (fn := Tryd.f22) Tryd.results22 _ _ w.heap.size 61 (ansB p 32) (0, 0) _ (by rfl) HST.out.row Tryd.underlying61 rfl info67) rfl (HBADR.out p 32 (by decide) H3.out _ (HST.out.bel _ _ HW3.out (Nat.le_refl _)))
        · have hg3 : ¬ ((c3.toNat : Int) ≤ 57) := by omega
          have H3 := hid (H32.out (Or.inl (fun h => d3 h.2.1.1)))
          by_cases e10 : [c0, c1, c2] = [49, 48, 61]
          · simp only [List.cons.injEq, and_true] at e10
            obtain ⟨rfl, rfl, rfl⟩ := e10
            clear H32 HO d3
            go_wp2_with (first | (go_at_call 35; refine (BA.out _ _ _).mono ?_; rintro e w3 ⟨rfl, hb⟩; have HB3 := hid hb; clear hb; refine Hid.out ?_))
            have HZ3 := hid (row_on HZ2.out HB3.out)
            have HW3 := hid (btr' HW2.out HB3.out)
            clear HB3
            refine Lib.hid ?_
            go_wp2_with (first | (refine wpList_st (by rfl) 61 (.tmp 2) (.tmp 102) (by rfl) w.heap.size (ansB p 32) (by rfl) (by rfl) 61 ansZ HZ3.out info67 rfl (by simp [ansB, Value.oneCell']) ?_; intro w5 hst; have HST := hid hst; clear hst; refine Hid.out ?_))
            refine Lib.hid ?_
            go_wp2
            exact bodyPost_ret (results_cell_row (fn := Tryd.f22) Tryd.results22 _ _ w.heap.size 61 (ansB p 32) (0, 0) _ (by rfl) HST.out.row Tryd.underlying61 rfl info67) rfl (HBADR.out p 32 (by decide) H3.out _ (HST.out.bel _ _ HW3.out (Nat.le_refl _)))
          · have e11 : ([c0, c1, c2] == [49, 48, 61]) = false := by simpa using e10
            clear H32 HO d3 e10
            go_wp2_with (first | (go_at_call 35; refine (BA.out _ _ _).mono ?_; rintro e w3 ⟨rfl, hb⟩; have HB3 := hid hb; clear hb; refine Hid.out ?_))
            have HZ3 := hid (row_on HZ2.out HB3.out)
            have HW3 := hid (btr' HW2.out HB3.out)
            clear HB3
            refine Lib.hid ?_
            go_wp2_with (first | (refine wpList_st (by rfl) 61 (.tmp 2) (.tmp 102) (by rfl) w.heap.size (ansB p 32) (by rfl) (by rfl) 61 ansZ HZ3.out info67 rfl (by simp [ansB, Value.oneCell']) ?_; intro w5 hst; have HST := hid hst; clear hst; refine Hid.out ?_))
            refine Lib.hid ?_
            go_wp2
            exact bodyPost_ret (results_cell_row (fn := Tryd.f22) Tryd.results22 _ _ w.heap.size 61 (ansB p 32) (0, 0) _ (by rfl) HST.out.row Tryd.underlying61 rfl info67) rfl (HBADR.out p 32 (by decide) H3.out _ (HST.out.bel _ _ HW3.out (Nat.le_refl _)))
end Go.Proofs.YtolabllgnfpfaaaDoor
