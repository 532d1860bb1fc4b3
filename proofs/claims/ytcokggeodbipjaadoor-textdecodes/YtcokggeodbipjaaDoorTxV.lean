/-
  TextEncodes' walk.
-/
import Derived.Test.YtcokggeodbipjaaDoorTxT
import Derived.Test.YtcokggeodbipjaaDoorTxU
namespace Go.Proofs.YtcokggeodbipjaaDoor
open Go.RowKit Go.Deep Go.Lib Go.Shelf Go.Sort
set_option linter.unusedVariables false

def beh : List UInt8 := [98, 101, 104, 105, 110, 100]
theorem Sb.grown {w w' : World} {q : Option Addr} {l : List UInt8} {row : Option Nat} (h : Sb w q l) (hg : w.grownBy w' row) (hne : ∀ a, q = some a → some a.block ≠ row) : Sb w' q l := fun i hi => by
  obtain ⟨b, o, e, h0⟩ := h i hi
  exact ⟨b, o, e, hg.cell h0 (hne ⟨b, o, none⟩ e)⟩
theorem own_caps {w : World} {B g n c : Nat} {xs : List Value} (h : w.ownsRow B 28 2 (.slice (some ⟨g, 0, none⟩) n c) n xs) : n ≤ c ∧ c < 9223372036854775808 := by
  rcases h.2 with ⟨e, _⟩ | ⟨g', c', cur, e, _, _, h1, h2, _⟩
  · cases e
  · obtain ⟨_, rfl⟩ : g = g' ∧ c = c' := by simpa using e
    unfold maxLen at h2
    exact ⟨h1, by omega⟩
theorem owns_allocT {w : World} {B n sz : Nat} {T : TypeId} {v : Value} {xs : List Value} (h : w.ownsRow B T sz v n xs) (o : Obj) : (w.alloc o).ownsRow B T sz v n xs := by
  refine ⟨h.1, ?_⟩
  rcases h.2 with h2 | ⟨g, cap, cur, e, hB, hg, r⟩
  · exact Or.inl h2
  · refine Or.inr ⟨g, cap, cur, e, hB, ?_, r⟩
    have hlt : g < w.heap.size := by
      rcases Nat.lt_or_ge g w.heap.size with h | h
      · exact h
      · rw [Array.getElem?_eq_none h] at hg; cases hg
    rw [Below.heap_alloc w o g hlt]; exact hg
theorem own_blk {B : Nat} {W0 w : World} {v : Value} {l : List UInt8} (h : Own B W0 w v l) : ∀ k, v.ownBlock = some k → B ≤ k ∧ k < w.heap.size := h.1.lt
theorem tg_one (w : World) : Tg (w.alloc (.cells #[.int .i64 5, .string ⟨#[98, 101, 104, 105, 110, 100]⟩] 28)) (some ⟨w.heap.size, 0, none⟩) 1 [(5, beh)] := by
  refine ⟨ts_of_cells fun j u hj => ?_, fun h => by cases h⟩
  rw [Nat.zero_add, World.cell?_alloc_new]
  simpa [tv, beh] using hj

set_option maxHeartbeats 4000000 in
set_option maxRecDepth 100000 in
theorem encodes_walk (kind : List UInt8) (l : List (Int × List UInt8)) (q : Option Addr) (cap n : Nat) (w : World) (hT : Tg w q cap l) (hcap : l.length ≤ cap) (hcm : cap < 9223372036854775808) (hk : kind.length ≤ 140737488351232) (hl : l.length * 24 ≤ 140737488351232) (hs : ∀ x ∈ l, x.2.length ≤ 140737488351232) (hn : n < 18446744073709551616) (hL : Lay w) :
    Calls Tryd.prog 5 #[.string ⟨kind.toArray⟩, .slice q l.length cap, .int .u64 n] w fun e w' => e = .returned (.bool true) ∧ Below w.heap.size w w' := by
  have HT := hid hT
  have HL := hid hL
  have HB0 := hid (ball w (.cells #[] 28))
  have HO := hid (show (w.alloc (.cells #[] 28)).ownsRow w.heap.size 28 2 (.slice (some ⟨w.heap.size, 0, none⟩) 0 0) 0 (tv []) from World.ownsRow_made (base := w.heap.size) (e := 28) (size := 2) w #[] 0 (Nat.le_refl _) (Nat.zero_le _) rfl)
  have HT0 := hid (hT.on HB0.out)
  have hll : l.length < 9223372036854775808 := by omega
  have HS := hid (show ∀ x ∈ l, x.2.length ≤ 140737488355328 from fun x hx => by have := hs x hx; omega)
  have EN := hid (fun q cap w hc hm hT hL => encode_any kind l q cap w (by omega) HS.out hll hc hm hT hL)
  have RN := hid (fun q cap w hc hm hT => rencode_any kind l q cap w (by omega) HS.out hll hc hm hT)
  have D1 := hid (fun w hL => decimal_any n hn w hL)
  have D2 := hid (fun w => rdecimal_any n hn w)
  have hbl : (encB kind l).length ≤ 2048 := by
    unfold encB
    split
    · rename_i h
      unfold encE at h
      split at h
      · cases h
      · split at h
        · cases h
        · split at h
          · split at h
            · cases h
            · omega
          · rename_i h3 ; exact absurd h h3
    · simp
  obtain ⟨EB, hEB⟩ : ∃ x, encB kind l = x := ⟨_, rfl⟩
  obtain ⟨EE, hEE⟩ : ∃ x, encE kind l = x := ⟨_, rfl⟩
  obtain ⟨DD, hDD⟩ : ∃ x, decDigits n = x := ⟨_, rfl⟩
  rw [hEB] at EN RN hbl
  rw [hEE] at EN RN
  rw [hDD] at D1 D2
  have SM := hid (fun q1 q2 c1 c2 w h1 h2 => same_same EB q1 q2 c1 c2 w (by omega) h1 h2)
  have S1 := hid (fun q cap w h => sum_any EB q cap w (by omega) h)
  have S2 := hid (fun q cap w h => rsum_any EB q cap w (by omega) h)
  obtain ⟨SS, hSS⟩ : ∃ x, sumB EB = x := ⟨_, rfl⟩
  rw [hSS] at S1 S2
  clear hT hL hs hEB hEE hDD hSS
  go_enter Tryd.func5, Tryd.ntmps5
  go_wp2_with (first | (at_builtin; refine wpList_append_tags _ (by rfl) (.tmp 14) (.tmp 15) (by rfl) w.heap.size w.heap.size 0 0 [] (by rfl) HO.out q cap l.length l rfl (by rfl) HT0.out (by omega) HB0.out.size l.length l (by simp) rfl ?_; intro g1 c1 w1 hown1 hb1; have O1 := hid hown1; have HB1 := hid (HB0.out.trans hb1); clear hown1 hb1; refine Hid.out ?_))
  have HB1a := hid (btr' HB1.out (ball w1 (.cells #[.int .i64 5, .string ⟨#[98, 101, 104, 105, 110, 100]⟩] 28)))
  have O1a := hid (owns_allocT O1.out (.cells #[.int .i64 5, .string ⟨#[98, 101, 104, 105, 110, 100]⟩] 28))
  have TG1 := hid (tg_one w1)
  refine Lib.hid ?_
  go_wp2_with (first | (at_builtin; refine wpList_append_tags _ (by rfl) (.tmp 16) (.tmp 18) (by rfl) w.heap.size g1 l.length c1 l (by rfl) O1a.out (some ⟨w1.heap.size, 0, none⟩) 1 1 [(5, beh)] rfl (by rfl) TG1.out (by simp; omega) HB1a.out.size (l.length + 1) (l ++ [(5, beh)]) (by simp) rfl ?_; intro g2 c2 w2 hown2 hb2; have O2 := hid hown2; have HB2 := hid (HB1a.out.trans hb2); clear hown2 hb2; refine Hid.out ?_))
  obtain ⟨hc2, hm2⟩ := own_caps O2.out
  have M2 := hid (ts_own (by simp) O2.out)
  have ML2 := hid (show Ts w2 (some ⟨g2, 0, none⟩) l by have h := ts_take M2.out l.length; simpa using h)
  have hbeh := hid (show w2.cell? ⟨g2, l.length * 2 + 1, none⟩ = some (.string ⟨#[98, 101, 104, 105, 110, 100]⟩) by
    obtain ⟨b, o, e, _, h1⟩ := M2.out l.length (by simp)
    obtain ⟨rfl, rfl⟩ : g2 = b ∧ 0 = o := by simpa using e
    simpa [beh] using h1)
  have i0 : (0 : Int) ≤ (l.length : Int) := by omega
  have i1 : (l.length : Int) ≤ (c2 : Int) := by omega
  have i2 : (l.length : Int) < ((l.length + 1 : Nat) : Int) := by omega
  refine Lib.hid ?_
  go_wp2_with (first | (go_at_call 15; refine (EN.out _ _ _ (by omega) hm2 ML2.out (HL.out.on HB2.out)).mono ?_; rintro e w3 ⟨vx, rfl, hOx, hnx⟩; have OX := hid hOx; have HB3 := hid (btr' HB2.out hOx.2.1); have ML3 := hid (ML2.out.on hOx.2.1); have B3 := hid hOx.2.1; clear hOx hnx; refine Hid.out ?_))
  refine Lib.hid ?_
  go_wp2_with (first | (go_at_call 15; refine (EN.out _ _ _ (by omega) hm2 ML3.out (HL.out.on HB3.out)).mono ?_; rintro e w4 ⟨vy, rfl, hOy, hny⟩; have OY := hid hOy; have HB4 := hid (btr' HB3.out hOy.2.1); have B4 := hid hOy.2.1; clear hOy hny) | (go_at_call 16; refine (RN.out q cap _ hcap hcm (HT.out.on HB4.out).1).mono ?_; rintro e w5 ⟨vz, rfl, hAz⟩; have AZ := hid hAz; clear hAz; refine Hid.out ?_))
  obtain ⟨q3, c3, rfl, hS3, hq3, hB5⟩ := AZ.out
  obtain ⟨qx, cx, hvx, hSx⟩ := OX.out.form
  obtain ⟨qy, cy, hvy, hSy⟩ := OY.out.form
  have GX := hid (own_blk OX.out)
  have GY := hid (own_blk OY.out)
  have OXR := hid OX.out.1
  subst hvx hvy
  have SX5 := hid ((hSx.on B4.out).on hB5)
  have SY5 := hid (hSy.on hB5)
  have SZ5 := hid hS3
  have Q3 := hid hq3
  have HB5 := hid (btr' HB4.out hB5)
  have M5 := hid ((ML3.out.on B4.out).on hB5)
  have C5 := hid (show w5.cell? ⟨g2, l.length * 2 + 1, none⟩ = some (.string ⟨#[98, 101, 104, 105, 110, 100]⟩) by rw [hB5.cell (Nat.lt_of_lt_of_le (cell_lt hbeh.out) (Nat.le_trans B3.out.size B4.out.size)), B4.out.cell (Nat.lt_of_lt_of_le (cell_lt hbeh.out) B3.out.size), B3.out.cell (cell_lt hbeh.out)]; exact hbeh.out)
  have B35 := hid (btr' B4.out hB5)
  clear hS3 hq3 hB5 hSx hSy
  refine Lib.hid ?_
  go_wp2_with (go_at_call 17; refine (SM.out _ _ _ _ _ SX5.out SZ5.out).mono ?_; rintro e w6 ⟨rfl, hb⟩; have B6 := hid hb; clear hb; refine Hid.out ?_)
  refine Lib.hid ?_
  go_wp2_with (go_at_call 17; refine (SM.out _ _ _ _ _ (SY5.out.on B6.out) (SZ5.out.on B6.out)).mono ?_; rintro e w7 ⟨rfl, hb⟩; have B7 := hid (btr' B6.out hb); clear hb; refine Hid.out ?_)
  have HB7 := hid (btr' HB5.out B7.out)
  refine Lib.hid ?_
  go_wp2_with (go_at_call 14; refine (tags_same l _ _ _ _ _ hll (M5.out.on B7.out) (HT.out.on HB7.out).1).mono ?_; rintro e w8 ⟨rfl, hb⟩; have B8 := hid (btr' B7.out hb); clear hb; refine Hid.out ?_)
  have hc8 : w8.cell? ⟨g2, l.length * 2 + 1, none⟩ = some (.string ⟨#[98, 101, 104, 105, 110, 100]⟩) := by rw [B8.out.cell (cell_lt C5.out)]; exact C5.out
  have HB8 := hid (btr' HB5.out B8.out)
  have B38 := hid (btr' B35.out B8.out)
  have OX8 := hid (OX.out.on B38.out)
  have FU := hid (full_any (.slice qx EB.length cx) EB.length w2.heap.size (byteCells EB) w8 (by omega) OX8.out.2.2 OX8.out.1)
  refine Lib.hid ?_
  go_wp2_with (go_at_call 18; refine FU.out.mono ?_; rintro e w9 ⟨rfl, hg⟩; have G9 := hid hg; clear hg; refine Hid.out ?_)
  have HB9 := hid (show Below w.heap.size w w9 from HB8.out.grown G9.out HB8.out.size (fun k hk => Nat.le_trans HB2.out.size (GX.out k hk).1))
  have SY9 := hid ((SY5.out.on B8.out).grown G9.out (fun a ha => by
    intro e
    subst ha
    have h1 := (GX.out _ e.symm).2
    have h2 := (GY.out a.block rfl).1
    omega))
  have SZ9 := hid ((SZ5.out.on B8.out).grown G9.out (fun a ha => by
    intro e
    have h1 := (GX.out _ e.symm).2
    have h2 := Q3.out a ha
    have h3 := B4.out.size
    omega))
  clear hc8
  refine Lib.hid ?_
  go_wp2_with (first | (go_at_call 17; refine (SM.out _ _ _ _ _ SY9.out SZ9.out).mono ?_; rintro e w10 ⟨rfl, hb⟩; have B10 := hid hb; have HB10 := hid (btr' HB9.out hb); clear hb) | (go_at_call 19; refine (S1.out _ _ _ (SY9.out.on B10.out)).mono ?_; rintro e w11 ⟨rfl, hw⟩; subst hw) | (go_at_call 20; refine (S2.out _ _ _ (SZ9.out.on B10.out)).mono ?_; rintro e w12 ⟨rfl, hw⟩; subst hw) | (go_at_call 9; refine (D1.out _ (HL.out.on HB10.out)).mono ?_; rintro e w13 ⟨rfl, hb⟩; have HB13 := hid (btr' HB10.out hb); clear hb) | (go_at_call 21; refine (D2.out _).mono ?_; rintro e w14 ⟨rfl, hb⟩; have HB14 := hid (btr' HB13.out hb); clear hb))
  all_goals (go_ret; refine ⟨?_, HB14.out⟩; first | rfl | simp)
end Go.Proofs.YtcokggeodbipjaaDoor
