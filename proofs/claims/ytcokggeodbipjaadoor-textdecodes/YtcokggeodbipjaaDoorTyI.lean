/-
  TextSpoilt: the walk.
-/
import Derived.Test.YtcokggeodbipjaaDoorTyH
import Derived.Test.YtcokggeodbipjaaDoorTxV
namespace Go.Proofs.YtcokggeodbipjaaDoor
open Go.RowKit Go.Deep Go.Lib Go.Shelf Go.Sort
set_option linter.unusedVariables false

theorem own_slice (w : World) {ops : Array Oper} {rest : List Oper} {o : Oper} {a : Act} {Q : Exit → Act → World → Prop} (hgd : o.guard = none) (sl x : Operand)
    (ho : o.op = .call { callee := .builtin .append, args := #[sl, x], argTypes := #[35, 35] }) (B : Nat) (v : Value) (l : List UInt8) (hs : a.eval sl = v) (W0 : World) (hb : Own B W0 w v l) (b off n cap : Nat) (t : List UInt8) (hn : n = t.length) (hx : a.eval x = .slice (some ⟨b, off, none⟩) n cap) (hS : Sb w (some ⟨b, off, none⟩) t) (hlen : l.length + t.length ≤ 140737488355328)
    (h : ∀ v' w', Own B W0 w' v' (l ++ t) → wpList Tryd.prog ops Q rest (a.put o.dst v') w') : wpList Tryd.prog ops Q (o :: rest) a w := by
  subst hn
  obtain ⟨i0, hi, hz0, hz1, hz2⟩ := info_parts info5all
  refine wpList_append_own _ hgd sl x 35 ho B 5 i0 (.int .u8 0) 1 1 Tryd.underlying35 hi hz0 hz1 hz2 rfl (by decide) v l.length _ hs hb.1 ⟨b, off, none⟩ t.length cap (byteCells t) hx (by simp [byteCells]) ?_ ?_ (by unfold maxLen; omega) (by omega) hb.2.2 ?_
  · intro j u hj
    simp only [byteCells, List.getElem?_map, Option.map_eq_some_iff] at hj
    obtain ⟨c, hc, rfl⟩ := hj
    obtain ⟨hl, hc⟩ := List.getElem?_eq_some_iff.1 hc
    obtain ⟨b', o', e, h0⟩ := hS j hl
    obtain ⟨rfl, rfl⟩ : b = b' ∧ off = o' := by simpa using e
    rw [hc] at h0
    rw [Addr.add_mid]
    exact h0
  · intro u hu
    simp only [byteCells, List.mem_map] at hu
    obtain ⟨c, _, rfl⟩ := hu
    rfl
  · intro v' w' ho' hg _
    refine h v' w' ?_
    have hO : w'.ownsRow B 5 1 v' _ _ ∧ Below B W0 w' ∧ B ≤ w'.heap.size := ⟨ho', hb.2.1.grown hg hb.2.2 (fun k hk => (hb.1.lt k hk).1), Nat.le_trans hb.2.2 hg.size⟩
    unfold Own
    rw [byteCells_append, List.length_append]
    exact hO
theorem sb_set {w : World} {g : Nat} {l : List UInt8} (h : Sb w (some ⟨g, 0, none⟩) l) (i : Nat) (hi : i < l.length) (c : UInt8) : Sb (w.setCell ⟨g, i, none⟩ (.int .u8 (c.toNat : Int))) (some ⟨g, 0, none⟩) (l.set i c) := by
  intro j hj
  refine ⟨g, 0, rfl, ?_⟩
  have hj' : j < l.length := by simpa using hj
  obtain ⟨b, o, e, h0⟩ := h j hj'
  obtain ⟨rfl, rfl⟩ : g = b ∧ 0 = o := by simpa using e
  rw [Nat.zero_add] at h0 ⊢
  by_cases hji : j = i
  · subst hji
    rw [World.cell?_setCell_same _ _ _ h0]
    simp
  · rw [World.cell?_setCell_other _ _ _ _ (by simp), h0, List.getElem_set_ne (by omega)]
theorem own_free {B : Nat} {W0 w : World} {v : Value} {l : List UInt8} (h : Own B W0 w v l) (hl : 0 < l.length) : ∃ g cap, v = .slice (some ⟨g, 0, none⟩) l.length cap ∧ B ≤ g ∧ Sb w (some ⟨g, 0, none⟩) l ∧ (∀ j, w.frozen? ⟨g, j, none⟩ = false) ∧ l.length ≤ cap ∧ cap < 9223372036854775808 := by
  obtain ⟨q, c, e, hS⟩ := h.form
  rcases h.1.2 with ⟨_, hn⟩ | ⟨g, cap, cur, e2, hB, hg, h5, h6, h7, h8⟩
  · omega
  · rw [e2] at e
    obtain ⟨rfl, rfl⟩ : some ⟨g, 0, none⟩ = q ∧ cap = c := by simpa using e
    exact ⟨g, cap, e2, hB, hS, fun j => frozen_of_row w g j _ 5 hg, h5, by unfold maxLen at h6; omega⟩
theorem own_emptyB (w : World) : Own w.heap.size w (w.alloc (.cells #[] 5)) (.slice (some ⟨w.heap.size, 0, none⟩) 0 0) [] := ⟨World.ownsRow_made (base := w.heap.size) (e := 5) (size := 1) w #[] 0 (Nat.le_refl _) (Nat.zero_le _) rfl, ball _ _, by simp⟩
theorem encB_len (kind : List UInt8) (l : List (Int × List UInt8)) : (encB kind l).length ≤ 2048 := by
  unfold encB
  split
  · rename_i h
    unfold encE at h
    split at h
    · cases h
    · split at h
      · cases h
      · split at h
        · split at h
          · cases h
          · omega
        · rename_i h3 ; exact absurd h h3
  · simp
theorem enc_one : encE [48] [] = 0 ∧ 0 < (encB [48] []).length := by
  have h1 : encE [48] [] = 0 := by decide +kernel
  refine ⟨h1, ?_⟩
  unfold encB
  rw [if_pos h1, lineB_len]
  omega

set_option maxHeartbeats 4000000 in
set_option maxRecDepth 100000 in
theorem spoilt_walk (kind : List UInt8) (l : List (Int × List UInt8)) (q : Option Addr) (cap : Nat) (a0 a1 : Int) (w : World) (hT : Tg w q cap l) (hcap : l.length ≤ cap) (hcm : cap < 9223372036854775808) (hk : kind.length ≤ 140737488351232) (hl : l.length * 24 ≤ 140737488351232) (hs : ∀ x ∈ l, x.2.length ≤ 140737488351232) (hM : LayM w) :
    Calls Tryd.prog 6 #[.string ⟨kind.toArray⟩, .slice q l.length cap, .agg #[.int .i64 a0, .int .i64 a1]] w fun e w' => e = .returned (.bool true) ∧ Below w.heap.size w w' := by
  have HT := hid hT
  have HM := hid hM
  have hsz : (w.alloc (.cells #[.int .i64 a0, .int .i64 a1] 42)).heap.size = w.heap.size + 1 := by simp
  have HA := hid (ball w (.cells #[.int .i64 a0, .int .i64 a1] 42))
  have HB0 := hid (show Below (w.heap.size + 1) (w.alloc (.cells #[.int .i64 a0, .int .i64 a1] 42)) ((w.alloc (.cells #[.int .i64 a0, .int .i64 a1] 42)).alloc (.cells #[] 28)) by rw [← hsz]; exact ball _ _)
  have HO := hid (show ((w.alloc (.cells #[.int .i64 a0, .int .i64 a1] 42)).alloc (.cells #[] 28)).ownsRow (w.heap.size + 1) 28 2 (.slice (some ⟨w.heap.size + 1, 0, none⟩) 0 0) 0 (tv []) by rw [← hsz]; exact World.ownsRow_made (base := (w.alloc (.cells #[.int .i64 a0, .int .i64 a1] 42)).heap.size) (e := 28) (size := 2) (w.alloc (.cells #[.int .i64 a0, .int .i64 a1] 42)) #[] 0 (Nat.le_refl _) (Nat.zero_le _) rfl)
  have HT0 := hid ((hT.on HA.out).on (ball _ (.cells #[] 28)))
  have hs0 : w.heap.size + 1 ≤ ((w.alloc (.cells #[.int .i64 a0, .int .i64 a1] 42)).alloc (.cells #[] 28)).heap.size := by simp
  have hll : l.length < 9223372036854775808 := by omega
  have HS := hid (show ∀ x ∈ l, x.2.length ≤ 140737488355328 from fun x hx => by have := hs x hx; omega)
  have EN := hid (fun q cap w hc hm hT hL => encode_any kind l q cap w (by omega) HS.out hll hc hm hT hL)
  have E1 := hid (fun w hL => encode_any [48] [] none 0 w (by decide) (fun x hx => by cases hx) (by decide) (Nat.le_refl _) (by decide) (fun i hi => by simp at hi) hL)
  have hbl := encB_len kind l
  have hob := enc_one.2
  have hLine := hid (show encE kind l = 0 → ∃ y, encB kind l = y ++ trailB y from fun h => ⟨aheadB kind l, by unfold encB; rw [if_pos h]; rfl⟩)
  rw [enc_one.1] at E1
  obtain ⟨EB, hEB⟩ : ∃ x, encB kind l = x := ⟨_, rfl⟩
  obtain ⟨EE, hEE⟩ : ∃ x, encE kind l = x := ⟨_, rfl⟩
  obtain ⟨OB, hOB⟩ : ∃ x, encB [48] [] = x := ⟨_, rfl⟩
  rw [hEB] at EN hbl hLine
  rw [hEE] at EN hLine
  rw [hOB] at E1 hob
  have hob3 : (OB.length : Int) ≠ 0 := by omega
  have hob2 : ((OB.length : Int) == 0) = false := by simpa using hob3
  clear hob3
  clear hT hM hs hEB hEE hOB hob
  go_enter Tryd.func6, Tryd.ntmps6
  go_wp2_with (first | (at_builtin; refine wpList_append_tags _ (by rfl) (.tmp 18) (.tmp 19) (by rfl) (w.heap.size + 1) (w.heap.size + 1) 0 0 [] (by rfl) HO.out q cap l.length l rfl (by rfl) HT0.out (by omega) hs0 l.length l (by simp) rfl ?_; intro g1 c1 w1 hown1 hb1; have O1 := hid hown1; have HB1 := hid (HB0.out.trans hb1); clear hown1 hb1; refine Hid.out ?_))
  have q10 : w1.cell? ⟨w.heap.size, 0, none⟩ = some (.int .i64 a0) := cell_new 0 (by rw [hsz]; exact HB1.out) rfl
  have q11 : w1.cell? ⟨w.heap.size, 1, none⟩ = some (.int .i64 a1) := cell_new 1 (by rw [hsz]; exact HB1.out) rfl
  have HW1 := hid (show Below w.heap.size w w1 from HA.out.trans (HB1.out.mono (by omega)))
  obtain ⟨hc1, hm1⟩ := own_caps O1.out
  have M1 := hid (ts_own (by simp) O1.out)
  clear O1 HB1 HO HB0 HT0 hs0 hsz
  refine Lib.hid ?_
  go_wp2_with (first | (go_at_call 15; refine (EN.out _ _ _ hc1 hm1 M1.out (HM.out.on HW1.out).laye.lay).mono ?_; rintro e w2 ⟨vx, rfl, hOx, hnx⟩; have OX := hid hOx; have HB2 := hid (btr' HW1.out hOx.2.1); have q20 := (hOx.2.1.cell (cell_lt q10)).trans q10; have q21 := (hOx.2.1.cell (cell_lt q11)).trans q11; clear hOx hnx; refine Hid.out ?_))
  clear q10 q11 M1 HW1
  obtain ⟨qx, cx, hvx, hSx⟩ := OX.out.form
  subst hvx
  refine Lib.hid ?_
  go_wp2_with (first | (go_at_call 15; refine (E1.out _ (HM.out.on HB2.out).laye.lay).mono ?_; rintro e w3 ⟨vo, rfl, hOo, hno⟩; have HB3 := hid (btr' HB2.out hOo.2.1); have q30 := (hOo.2.1.cell (cell_lt q20)).trans q20; have q31 := (hOo.2.1.cell (cell_lt q21)).trans q21; have HSX := hid (hSx.on hOo.2.1); have FO := hid hOo.form; clear hOo hno hSx; refine Hid.out ?_))
  obtain ⟨qo, co, hvo, _⟩ := FO.out
  subst hvo
  clear q20 q21 FO OX HB2
  refine Lib.hid ?_
  by_cases he : EE = 0
  · subst he
    obtain ⟨y, hy⟩ := hLine.out rfl
    have HY := hid hy
    clear hy
    obtain ⟨k, hk1, hk2⟩ : ∃ k : Nat, IntKind.u8.wrap a1 = (k : Int) ∧ k < 256 := ⟨(IntKind.u8.wrap a1).toNat, by rw [IntKind.wrap_u8]; omega, by rw [IntKind.wrap_u8]; omega⟩
    by_cases h0 : a0 < 0
    · go_wp2
      go_ret
      exact ⟨rfl, HB3.out⟩
    · by_cases h1 : ¬ ((EB.length : Int) ≤ a0)
      · by_cases hk0 : k = 0
        · subst hk0
          have hk3 : IntKind.u8.wrap a1 = 0 := by rw [hk1]; rfl
          clear hk1
          go_wp2
          go_ret
          exact ⟨rfl, HB3.out⟩
        · have hkn : ((k : Int) == 0) = false := by
            have : (k : Int) ≠ 0 := by omega
            simpa using this
          obtain ⟨i, rfl⟩ : ∃ i : Nat, a0 = (i : Int) := ⟨a0.toNat, by omega⟩
          have hi : i < EB.length := by omega
          obtain ⟨bx, ox, rfl, _⟩ := HSX.out i hi
          obtain ⟨c, hc⟩ : ∃ c, EB[i] = c := ⟨_, rfl⟩
          obtain ⟨c', hc'⟩ : ∃ c', UInt8.ofNat (c.toNat ^^^ k) = c' := ⟨_, rfl⟩
          have hcl := c.toNat_lt
          have hx256 : c.toNat ^^^ k < 256 := Nat.xor_lt_two_pow (n := 8) (by omega) (by omega)
          have hcn : c'.toNat = c.toNat ^^^ k := by rw [← hc']; simp [Nat.mod_eq_of_lt hk2]
          have hne : c' ≠ c := by
            intro e
            rw [e] at hcn
            have h2 : c.toNat ^^^ (c.toNat ^^^ k) = c.toNat ^^^ c.toNat := by rw [← hcn]
            rw [← Nat.xor_assoc, Nat.xor_self, Nat.zero_xor] at h2
            exact hk0 h2
          have hxor : bits .xor .u8 (c.toNat : Int) (k : Int) = (c'.toNat : Int) := by rw [u8_xor_nat _ _ (by omega) hk2, hcn]
          have SPO := hid (show (decR (EB.set i c')).2.2.2 = 0 → (decR (EB.set i c')).2.2.1 ≠ EB.length by
            obtain hy := HY.out
            subst hy
            exact fun h => spoilt y i hi c' (by rw [hc]; exact hne) h)
          have DC := hid (fun g cp w hcap hcm hS hM => decode_any (EB.set i c') (some ⟨g, 0, none⟩) cp w (by simp; omega) (by simp; omega) hcm hS hM : ∀ (g cp : Nat) (w : World), EB.length ≤ cp → cp < 9223372036854775808 → Sb w (some ⟨g, 0, none⟩) (EB.set i c') → LayM w → _)
          rw [List.length_set] at DC
          obtain ⟨dk, dt, dn, de, hd⟩ : ∃ a b c d, decR (EB.set i c') = (a, b, c, d) := ⟨_, _, _, _, rfl⟩
          rw [hd] at DC SPO
          simp only at DC SPO
          clear hd
          have HE := hid (own_emptyB w3)
          have HSY := hid (HSX.out.on (ball w3 (.cells #[] 5)))
          have i0 : (0 : Int) ≤ (i : Int) := by omega
          clear HY hcn hx256 hc' hne hLine
          go_wp2_with (first | (at_builtin; refine own_slice _ (by rfl) (.tmp 55) (.tmp 56) (by rfl) w3.heap.size _ [] (by rfl) w3 HE.out bx ox _ cx EB rfl (by rfl) HSY.out (by simp; omega) ?_; intro v4 w4 hO4; have HO4 := hid hO4; clear hO4; refine Hid.out ?_))
          obtain ⟨g, c4, hv4, hB4, hS4, hf4, hc4, hm4⟩ := own_free (l := EB) (show Own w3.heap.size w3 w4 v4 EB from HO4.out) (by omega)
          have hcell : w4.cell? ⟨g, i, none⟩ = some (.int .u8 (c.toNat : Int)) := by
            have h := hS4.at i hi
            rw [hc, Nat.zero_add] at h
            exact h
          have hfz := hf4 i
          have q40 := (HO4.out.2.1.cell (cell_lt q30)).trans q30
          have q41 := (HO4.out.2.1.cell (cell_lt q31)).trans q31
          have HS5 := hid (show Sb (w4.setCell ⟨g, i, none⟩ (.int .u8 (c'.toNat : Int))).drew (some ⟨g, 0, none⟩) (EB.set i c') from sb_set hS4 i hi c')
          have HB4 := hid (btr' HB3.out HO4.out.2.1)
          have hgw : w.heap.size ≤ g := Nat.le_trans HB3.out.size hB4
          have HB5 := hid (show Below w.heap.size w (w4.setCell ⟨g, i, none⟩ (.int .u8 (c'.toNat : Int))) from HB4.out.setCell hgw _)
          subst hv4
          have i1 : (i : Int) < (EB.length : Int) := by omega
          clear q30 q31 HO4 hf4 hS4 HE HSY HSX h0 h1 hc
          refine Lib.hid ?_
          go_wp2
          go_region
          by_cases hde : de = 0
          · have hdn : ((dn : Int) != (EB.length : Int)) = true := by
              have h2 : (dn : Int) ≠ (EB.length : Int) := by have := SPO.out hde; omega
              simpa using h2
            subst hde
            clear SPO
            go_wp2_with (go_at_call 22; refine (DC.out g c4 _ hc4 hm4 HS5.out (HM.out.on HB5.out.drew)).mono ?_; rintro e w6 ⟨v6, rfl, hO6⟩; have HB6 := hid (btr' HB5.out.drew hO6.2.1); clear hO6)
            go_ret
            exact ⟨rfl, HB6.out⟩
          · have hdn : (de != 0) = true := by simpa using hde
            clear SPO hde
            go_wp2_with (go_at_call 22; refine (DC.out g c4 _ hc4 hm4 HS5.out (HM.out.on HB5.out.drew)).mono ?_; rintro e w6 ⟨v6, rfl, hO6⟩; have HB6 := hid (btr' HB5.out.drew hO6.2.1); clear hO6)
            go_ret
            exact ⟨rfl, HB6.out⟩
      · have h2 : (EB.length : Int) ≤ a0 := Decidable.not_not.1 h1
        clear h1
        go_wp2
        go_ret
        exact ⟨rfl, HB3.out⟩
  · have hne : (EE != 0) = true := by simpa using he
    go_wp2
    go_ret
    exact ⟨rfl, HB3.out⟩
end Go.Proofs.YtcokggeodbipjaaDoor
