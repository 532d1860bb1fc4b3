/-
  The document's Keys, walked.
-/
import Derived.Test.YthidnipmkffilaaIyF
import Derived.Deep.RegionHeld3
namespace Go.Proofs.Ythidnipmkffilaa
open Go.RowKit Go.Deep
set_option linter.unusedVariables false
set_option linter.unusedSimpArgs false
set_option maxHeartbeats 40000000
set_option maxRecDepth 100000
/-- one is being put where it belongs. -/
structure Sk (w0 : World) (g c m : Nat) (l : List (Int × Int)) (x : Int × Int) (k : Nat) (wr : World) : Prop where
  ow : wr.ownsRow w0.heap.size 74 3 (.slice (some ⟨g, 0, none⟩) m c) m (pvs (insK k x l))
  up : ∀ j (hj : j < l.length), k ≤ j → x.1 < (l[j]).1
  be : Below w0.heap.size w0 wr
theorem own_on' {base : Nat} {w w' : World} {e : TypeId} {size n : Nat} {v : Value} {xs : List Value} (h : w.ownsRow base e size v n xs) (hb : Below w.heap.size w w') : w'.ownsRow base e size v n xs := by
  obtain ⟨h0, h1⟩ := h
  refine ⟨h0, h1.imp id ?_⟩
  rintro ⟨g, c, cur, e1, e2, e3, r⟩
  exact ⟨g, c, cur, e1, e2, row_on e3 hb, r⟩
theorem bdr1 (w : World) : Below w.heap.size w w.drew := ⟨rfl, rfl, rfl, Nat.le_refl _, fun _ _ => rfl⟩
theorem bdrN (w : World) (n : Nat) : Below w.heap.size w (w.drewN n) := ⟨rfl, rfl, rfl, Nat.le_refl _, fun _ _ => rfl⟩
theorem Sk.next {w0 : World} {g c m : Nat} {l : List (Int × Int)} {x y : Int × Int} {k : Nat} {wr : World} (h : Sk w0 g c m l x (k + 1) wr) (hm : l.length + 1 = m) (hy : l[k]? = some y) (hlt : x.1 < y.1) :
    Sk w0 g c m l x k (w3 (w3 wr g (k + 1) (.bool true) (.int .u64 y.1) (.int .i64 y.2)) g k (.bool true) (.int .u64 x.1) (.int .i64 x.2)) := by
  have hkl : k < l.length := by
    rcases Nat.lt_or_ge k l.length with h | h
    · exact h
    · rw [List.getElem?_eq_none h] at hy; cases hy
  have h1 := own_set h.ow (by rw [insK_len]; exact hm) (i := k + 1) (by omega) y
  have h2 := own_set h1 (by rw [List.length_set, insK_len]; exact hm) (i := k) (by omega) x
  rw [insK_swap k x y l hy] at h2
  obtain ⟨_, _, _, _, _, _, hg, _⟩ := own_cells3 h.ow (i := k + 1) (by omega) (insK_at (k + 1) x l (by omega))
  refine ⟨?_, fun j hj hk => ?_, ?_⟩
  · exact h2
  · by_cases e : j = k
    · subst e
      rw [List.getElem?_eq_getElem hj] at hy
      injection hy with hy
      rw [hy]; exact hlt
    · exact h.up j hj (by omega)
  · have k1 := (Kp.w3 (B := fun b => b = g) (w := wr) (P := g) rfl (k + 1) (.bool true) (.int .u64 y.1) (.int .i64 y.2)).trans (Kp.w3 (B := fun b => b = g) rfl k (.bool true) (.int .u64 x.1) (.int .i64 x.2))
    exact h.be.trans (k1.below h.be.size (fun b hb e => by omega))
theorem Sk.on {w0 : World} {g c m : Nat} {l : List (Int × Int)} {x : Int × Int} {k : Nat} {wr wr' : World} (h : Sk w0 g c m l x k wr) (hb : Below wr.heap.size wr wr') : Sk w0 g c m l x k wr' := by
  exact ⟨own_on' h.ow hb, h.up, btr h.be hb⟩
theorem bdrN' (w : World) (n : Nat) : Below w.heap.size w (w.drewN n) := ⟨rfl, rfl, rfl, Nat.le_refl _, fun _ _ => rfl⟩
theorem ris_stop {l : List (Int × Int)} (h : Ris l) {x : Int × Int} {k : Nat} (hk : k ≤ l.length) (hs : ∀ y, 0 < k → l[k - 1]? = some y → ¬ x.1 < y.1) : ∀ j (hj : j < l.length), j < k → ¬ x.1 < (l[j]).1 := by
  intro j hj hjk
  have hk1 : k - 1 < l.length := by omega
  have h1 := hs l[k - 1] (by omega) (List.getElem?_eq_getElem hk1)
  by_cases e : j = k - 1
  · subst e; exact h1
  · have := (List.pairwise_iff_getElem.1 h) j (k - 1) hj hk1 (by omega)
    omega
theorem keys_any {w : World} {X P n room : Nat} {T : Ix.Tab} (h : Rx w X P n room T) :
    Calls Try.prog 41 #[.pointer (some ⟨X, 0, none⟩)] w fun e w' => ∃ v L, e = .returned v ∧ OwE w.heap.size w' v L ∧ L.Perm (us T n) ∧ Ris L ∧ Below w.heap.size w w' := by
  have HX := hid h
  have hmost := h.most
  have HCE := hid (show ∀ U, Below w.heap.size w U → U.cell? ⟨X, 2, none⟩ = some (.slice (some ⟨P, 0, none⟩) n n) from fun U hU => (h.kp (Kp.ofBelow (fun _ => False) hU) (fun h => h) (fun h => h)).cells.2.2)
  have HPL := hid (show ∀ U, Below w.heap.size w U → ∀ i, i < n → U.cell? ⟨P, i * 3, none⟩ = some (.bool (eU (T i))) ∧ U.cell? ⟨P, i * 3 + 1, none⟩ = some (.int .u64 (eK (T i))) ∧ U.cell? ⟨P, i * 3 + 2, none⟩ = some (.int .i64 (eV (T i))) from fun U hU i hi => (h.kp (Kp.ofBelow (fun _ => False) hU) (fun h => h) (fun h => h)).pl.cell hi)
  clear h
  go_enter Try.func41, Try.ntmps41
  go_wp2_with fail
  go_loopw [3, 4] (fun sv iv wr => ∃ (i : Nat) (p : Option Addr) (m c : Nat) (L : List (Int × Int)), i ≤ n ∧ iv = .int .i64 i ∧ sv = .slice p m c ∧ m ≤ i ∧ Hid (L.length = m) ∧ Hid (OwE w.heap.size wr (.slice p m c) L) ∧ Hid (L.Perm (us T i)) ∧ Hid (Ris L) ∧ Hid (Below w.heap.size w wr)) (fun _ iv _ => n - (intOf iv).toNat)
  case atStart => exact ⟨0, none, 0, 0, [], Nat.zero_le _, rfl, rfl, Nat.le_refl _, hid rfl, hid ⟨rfl, .inl ⟨rfl, rfl⟩⟩, hid (List.Perm.refl _), hid List.Pairwise.nil, hid (Below.refl _ _)⟩
  case round =>
    obtain ⟨i, p, m, c, L, hin, rfl, rfl, hmi, HLM, HOW, HPE, HRI, HB⟩ := hrel
    have x2 := HCE.out wr HB.out
    by_cases hlt : i < n
    · obtain ⟨c0, c1, c2⟩ := HPL.out wr HB.out i hlt
      have i0 : (0 : Int) ≤ (i : Int) := by omega
      have i1 : (i : Int) < (n : Int) := by omega
      have hus : us T (i + 1) = us T i ++ (T i).toList := rfl
      cases hT : T i with
      | none =>
        rw [hT] at c0 hus
        simp only [eU] at c0
        have HPE2 := hid (show L.Perm (us T (i + 1)) from by rw [hus]; simpa using HPE.out)
        clear hT hus c1 c2
        go_wp2
        go_roundw
        case rel => exact ⟨i + 1, p, m, c, L, by omega, by go_num, rfl, by omega, HLM, HOW, HPE2, HRI, HB⟩
        case measure => first | (simp [intOf]; done) | (simp [intOf]; omega)
      | some x =>
        obtain ⟨k, v⟩ := x
        rw [hT] at c0 c1 c2 hus
        simp only [eU, eK, eV] at c0 c1 c2
        have HUS := hid hus
        clear hT hus
        go_upto_region 8 with (at_builtin; refine own_e (by rfl) (.tmp 26) (.tmp 34) (by rfl) w.heap.size (.slice p m c) L (by rfl) wr k v HOW.out _ rfl (by rfl) (by have := HLM.out; omega) HB.out.size ?_; intro v' w1 ho1 hb1)
        obtain ⟨g, cc, hv'⟩ : ∃ g cc, v' = .slice (some ⟨g, 0, none⟩) (m + 1) cc := by
          obtain ⟨h0, ⟨e1, e2⟩ | ⟨g, c, cur, e, _⟩⟩ := ho1
          · simp at e2
          · refine ⟨g, c, ?_⟩
            rw [e, List.length_append, HLM.out]; rfl
        subst hv'
        obtain ⟨m1, hm1⟩ : ∃ m1, m + 1 = m1 := ⟨_, rfl⟩
        have HSK := hid (show Sk w g cc m1 L (k, v) m w1 from ⟨by
          have h := ho1
          unfold OwE at h
          rw [List.length_append, HLM.out] at h
          rw [← hm1]
          have e := insK_end L (k, v)
          rw [HLM.out] at e
          rw [e]; exact h, fun j hj hk => by have := HLM.out; omega, HB.out.trans hb1⟩)
        rw [hm1]
        have HM1 := hid hm1
        clear hm1 ho1 hb1 c0 c1 c2 x2
        have m1i : m1 ≤ i + 1 := by have := HM1.out; omega
        go_loopw [5] (fun kv w4 => ∃ q : Nat, q ≤ m ∧ kv = .int .i64 q ∧ Hid (Sk w g cc m1 L (k, v) q w4)) (fun kv _ => (intOf kv).toNat)
        case atStart => exact ⟨m, Nat.le_refl _, rfl, HSK⟩
        case round =>
          obtain ⟨q, hqm, rfl, HS⟩ := hrel
          clear HSK
          have HFIN := hid (show (∀ y, 0 < q → L[q - 1]? = some y → ¬ k < y.1) → ∀ W', Below wr.heap.size wr W' → OwE w.heap.size W' (.slice (some ⟨g, 0, none⟩) m1 cc) (insK q (k, v) L) ∧ (insK q (k, v) L).Perm (us T (i + 1)) ∧ Ris (insK q (k, v) L) ∧ Below w.heap.size w W' ∧ (insK q (k, v) L).length = m1 from fun hs W' hW => by
            have hql : q ≤ L.length := by rw [HLM.out]; exact hqm
            have hlen : (insK q (k, v) L).length = m1 := by rw [insK_len, HLM.out]; exact HM1.out
            refine ⟨?_, ?_, insK_ris q (k, v) L HRI.out (ris_stop HRI.out hql hs) (fun j hj hk => by have := HS.out.up j hj hk; omega), btr HS.out.be hW, hlen⟩
            · unfold OwE
              rw [hlen]
              exact (HS.out.on hW).ow
            · rw [HUS.out]
              refine (insK_perm q (k, v) L).trans ?_
              have := (HPE.out.cons (k, v))
              exact this.trans (List.perm_append_singleton (k, v) (us T i)).symm)
          cases q with
          | zero =>
            go_upto_region 8 with fail
            go_big_quiet (fail)
            go_wp2
            obtain ⟨f1, f2, f3, f4, f5⟩ := HFIN.out (fun y h => by omega) (wr.drewN nq) (bdrN _ _)
            go_roundw
            case rel => exact ⟨i + 1, some ⟨g, 0, none⟩, m1, cc, insK 0 (k, v) L, by omega, by go_num, rfl, m1i, hid f5, hid f1, hid f2, hid f3, hid f4⟩
            case measure => first | (simp [intOf]; done) | (simp [intOf]; omega)
          | succ q =>
            have hql : q < L.length := by rw [HLM.out]; omega
            obtain ⟨y, hy⟩ : ∃ y, L[q]? = some y := ⟨_, List.getElem?_eq_getElem hql⟩
            have HY := hid hy
            obtain ⟨a0, a1, a2, afz, _⟩ := own_cells3 HS.out.ow (i := q + 1) (by have := HM1.out; omega) (insK_at (q + 1) (k, v) L (by omega))
            obtain ⟨d0, d1, d2, _, _⟩ := own_cells3 HS.out.ow (i := q) (by have := HM1.out; omega) ((insK_lo (q + 1) q (k, v) L (by omega) (by omega)).trans hy)
            obtain ⟨q1, hq1⟩ : ∃ q1, q + 1 = q1 := ⟨_, rfl⟩
            have HNX := hid (show ∀ N, k < y.1 → Sk w g cc m1 L (k, v) q (w3 (w3 (wr.drewN N) g q1 (.bool true) (.int .u64 y.1) (.int .i64 y.2)) g q (.bool true) (.int .u64 k) (.int .i64 v)) from fun N hl => by
              rw [← hq1]
              exact (HS.out.on (bdrN wr N)).next (by rw [HLM.out]; exact HM1.out) HY.out hl)
            have HST := hid (show ¬ k < y.1 → ∀ z, 0 < q + 1 → L[q + 1 - 1]? = some z → ¬ k < z.1 from fun hn z _ hz => by
              rw [Nat.add_sub_cancel, HY.out] at hz
              injection hz with hz
              rw [← hz]; exact hn)
            rw [hq1] at a0 a1 a2 HFIN HST ⊢
            have q0 : (0 : Int) ≤ (q : Int) := by omega
            have q2 : (q : Int) < (m1 : Int) := by have := HM1.out; omega
            have q3 : (0 : Int) ≤ (q1 : Int) := by omega
            have q4 : (q1 : Int) < (m1 : Int) := by have := HM1.out; omega
            have q5 : IntKind.i64.wrap ((q1 : Int) - 1) = (q : Int) := by rw [IntKind.wrap_i64]; omega
            have q6 : decide (0 < q1) = true := decide_eq_true (by omega)
            have q7 : 0 < q1 := by omega
            have ct1 : ((q : Int)).toNat = q := by omega
            have ct2 : ((q1 : Int)).toNat = q1 := by omega
            have HQ1 := hid hq1
            obtain ⟨yk, yv⟩ := y
            simp only at a0 a1 a2 d0 d1 d2 HNX HST
            have AFZ := hid afz
            clear hy hq1 hql afz
            by_cases hl : k < yk
            · have HL := hid hl
              have hld : decide (k < yk) = true := decide_eq_true hl
              go_upto_region 8 with fail
              go_big_quiet (fail)
              go_upto_region 9 with fail
              have g0 := AFZ.out (q * 3)
              have g1 := AFZ.out (q * 3 + 1)
              have g2 := AFZ.out (q * 3 + 2)
              have g3 := AFZ.out (q1 * 3)
              have g4 := AFZ.out (q1 * 3 + 1)
              have g5 := AFZ.out (q1 * 3 + 2)
              have n1 : ¬ q = q1 := by have := HQ1.out; omega
              have n2 : ¬ q1 = q := by have := HQ1.out; omega
              go_region
              go_wp2
              go_roundw
              case rel => exact ⟨q, by have := HQ1.out; omega, rfl, hid (HNX.out _ HL.out)⟩
              case measure => (have := HQ1.out; simp [intOf]; omega)
            · have HL := hid hl
              have hld : decide (k < yk) = false := decide_eq_false hl
              go_upto_region 8 with fail
              go_big_quiet (fail)
              go_wp2
              obtain ⟨f1, f2, f3, f4, f5⟩ := HFIN.out (HST.out HL.out) (wr.drewN nq) (bdrN _ _)
              go_roundw
              case rel => exact ⟨i + 1, some ⟨g, 0, none⟩, m1, cc, insK q1 (k, v) L, by omega, by go_num, rfl, m1i, hid f5, hid f1, hid f2, hid f3, hid f4⟩
              case measure => first | (simp [intOf]; done) | (simp [intOf]; omega)
    · obtain rfl : i = n := by omega
      go_wp2
      go_ret
      have HOW' := HOW.out
      rw [← HLM.out] at HOW' ⊢
      exact ⟨_, L, rfl, HOW', HPE.out, HRI.out, HB.out⟩
end Go.Proofs.Ythidnipmkffilaa
