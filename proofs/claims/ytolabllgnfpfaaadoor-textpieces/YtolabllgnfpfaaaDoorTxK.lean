/-
  Bytes: text.Sum, the document's Sum; text.fieldSize, appendField, trail.
-/
import Derived.Test.YtolabllgnfpfaaaDoorTxJ
import Derived.Lib.BufSteps
import Derived.Deep.RegionHeld3
namespace Go.Proofs.YtolabllgnfpfaaaDoor
open Go.RowKit Go.Deep Go.Lib Go.Shelf Go.Sort
set_option linter.unusedVariables false

/-- bytes in memory. -/
def Sb (w : World) (q : Option Addr) (l : List UInt8) : Prop :=
  ∀ i (h : i < l.length), ∃ b o, q = some ⟨b, o, none⟩ ∧ w.cell? ⟨b, o + i, none⟩ = some (.int .u8 ((l[i]'h).toNat : Int))
theorem Sb.on {w w' : World} {q : Option Addr} {l : List UInt8} (h : Sb w q l) (hb : Below w.heap.size w w') : Sb w' q l := fun i hi => by
  obtain ⟨b, o, e, h0⟩ := h i hi
  exact ⟨b, o, e, by rw [hb.cell (cell_lt h0)]; exact h0⟩
def sumB (l : List UInt8) : Nat := l.foldl (fun s c => (s + c.toNat) % 256) 0
theorem sumB_nil : sumB [] = 0 := by simp only [sumB, List.foldl_nil]
theorem sumB_snoc (l : List UInt8) (c : UInt8) : sumB (l ++ [c]) = (sumB l + c.toNat) % 256 := by
  simp only [sumB, List.foldl_append, List.foldl_cons, List.foldl_nil]
theorem sumB_lt (l : List UInt8) : sumB l < 256 := by
  rcases List.eq_nil_or_concat l with rfl | ⟨m, c, rfl⟩
  · rw [sumB_nil]; decide
  · rw [List.concat_eq_append, sumB_snoc]; omega

set_option maxHeartbeats 2000000 in
set_option maxRecDepth 100000 in
/-- text.Sum. -/
theorem sum_any (l : List UInt8) (q : Option Addr) (cap : Nat) (w : World) (hl : l.length < 9223372036854775808) (hS : Sb w q l) :
    Calls Tryd.prog 43 #[.slice q l.length cap] w fun e w' => e = .returned (.int .i64 (sumB l : Nat)) ∧ w' = w := by
  have HS := hid hS
  clear hS
  go_enter Tryd.func43, Tryd.ntmps43
  go_wp2_with fail
  go_loopw [3, 7] (fun sv iv wr => ∃ k s : Nat, k ≤ l.length ∧ iv = .int .i64 k ∧ sv = .int .u8 s ∧ s < 256 ∧ Hid (sumB (l.take k) = s) ∧ wr = w) (fun _ iv _ => l.length - (RowKit.intOf iv).toNat)
  case atStart => exact ⟨0, 0, Nat.zero_le _, rfl, rfl, by decide, hid (by rw [List.take_zero, sumB_nil]), rfl⟩
  case round =>
    obtain ⟨k, s, hk, rfl, rfl, hs, HR, rfl⟩ := hrel
    by_cases hlt : k < l.length
    · obtain ⟨b, o, rfl, h0⟩ := HS.out k hlt
      obtain ⟨c, hc⟩ : ∃ c, l[k] = c := ⟨_, rfl⟩
      rw [hc] at h0
      have i0 : (0 : Int) ≤ (k : Int) := by omega
      have i1 : (k : Int) < (l.length : Int) := by omega
      have hc256 : c.toNat < 256 := c.toNat_lt
      have HR2 := hid (show sumB (l.take (k + 1)) = (s + c.toNat) % 256 by rw [List.take_succ_eq_append_getElem hlt, sumB_snoc, HR.out, hc])
      clear hc
      have hw : IntKind.u8.wrap ((s : Int) + (c.toNat : Int)) = (((s + c.toNat) % 256 : Nat) : Int) := by rw [IntKind.wrap_u8]; omega
      go_wp2
      go_roundw
      case rel => exact ⟨k + 1, (s + c.toNat) % 256, by omega, by go_num, by first | rfl | (congr 1; omega), by omega, HR2, trivial⟩
      case measure => simp [RowKit.intOf]; omega
    · have hr := HR.out
      rw [List.take_of_length_le (by omega)] at hr
      have HR2 := hid hr
      clear hr
      go_wp2
      go_ret
      exact ⟨by rw [HR2.out]; rfl, rfl⟩
set_option maxHeartbeats 2000000 in
set_option maxRecDepth 100000 in
/-- the document's Sum. -/
theorem rsum_any (l : List UInt8) (q : Option Addr) (cap : Nat) (w : World) (hl : l.length < 9223372036854775808) (hS : Sb w q l) :
    Calls Tryd.prog 37 #[.slice q l.length cap] w fun e w' => e = .returned (.int .i64 (sumB l : Nat)) ∧ w' = w := by
  have HS := hid hS
  clear hS
  go_enter Tryd.func37, Tryd.ntmps37
  go_wp2_with fail
  go_loopw [3, 4] (fun sv iv wr => ∃ k s : Nat, k ≤ l.length ∧ iv = .int .i64 k ∧ sv = .int .i64 s ∧ s < 256 ∧ Hid (sumB (l.take k) = s) ∧ wr = w) (fun _ iv _ => l.length - (RowKit.intOf iv).toNat)
  case atStart => exact ⟨0, 0, Nat.zero_le _, rfl, rfl, by decide, hid (by rw [List.take_zero, sumB_nil]), rfl⟩
  case round =>
    obtain ⟨k, s, hk, rfl, rfl, hs, HR, rfl⟩ := hrel
    by_cases hlt : k < l.length
    · obtain ⟨b, o, rfl, h0⟩ := HS.out k hlt
      obtain ⟨c, hc⟩ : ∃ c, l[k] = c := ⟨_, rfl⟩
      rw [hc] at h0
      have i0 : (0 : Int) ≤ (k : Int) := by omega
      have i1 : (k : Int) < (l.length : Int) := by omega
      have hc256 : c.toNat < 256 := c.toNat_lt
      have HR2 := hid (show sumB (l.take (k + 1)) = (s + c.toNat) % 256 by rw [List.take_succ_eq_append_getElem hlt, sumB_snoc, HR.out, hc])
      clear hc
      have hw : Int.tmod ((s : Int) + (c.toNat : Int)) 256 = (((s + c.toNat) % 256 : Nat) : Int) := by rw [Int.tmod_eq_emod_of_nonneg (by omega)]; omega
      go_wp2
      go_roundw
      case rel => exact ⟨k + 1, (s + c.toNat) % 256, by omega, by go_num, by first | rfl | (congr 1; omega), by omega, HR2, trivial⟩
      case measure => simp [RowKit.intOf]; omega
    · have hr := HR.out
      rw [List.take_of_length_le (by omega)] at hr
      have HR2 := hid hr
      clear hr
      go_wp2
      go_ret
      exact ⟨by rw [HR2.out]; rfl, rfl⟩

/-- a field's bytes. -/
def fieldB (x : Int × List UInt8) : List UInt8 := decDigits x.1.toNat ++ 61 :: (x.2 ++ [1])
theorem fieldB_len (x : Int × List UInt8) : (fieldB x).length = nDigits x.1.toNat + 1 + x.2.length + 1 := by
  unfold fieldB; simp [decDigits_length]; omega

set_option maxHeartbeats 4000000 in
set_option maxRecDepth 100000 in
/-- text.fieldSize. -/
theorem fieldsize_any (t : Nat) (v : List UInt8) (w : World) (ht : t < 10000) (hv : v.length < 281474976710656) (hL : Lay w) :
    Calls Tryd.prog 24 #[.agg #[.int .i64 t, .string ⟨v.toArray⟩]] w fun e w' => e = .returned (.int .i64 ((fieldB (t, v)).length : Nat)) ∧ Below w.heap.size w w' := by
  obtain ⟨W, hW⟩ : ∃ W, w.alloc (.cells #[.int .i64 t, .string ⟨v.toArray⟩] 64) = W := ⟨_, rfl⟩
  have HB0 := hid (show Below w.heap.size w W from hW ▸ ball w (.cells #[.int .i64 t, .string ⟨v.toArray⟩] 64))
  have HLW := hid (show Lay W from hW ▸ hL.alloc (.cells #[.int .i64 t, .string ⟨v.toArray⟩] 64))
  have keep : ∀ w', Below W.heap.size W w' → (w'.cell? ⟨w.heap.size, 0, none⟩ = some (.int .i64 t) ∧ w'.cell? ⟨w.heap.size, 1, none⟩ = some (.string ⟨v.toArray⟩)) ∧ Below W.heap.size W w' := by
    intro w' hb
    refine ⟨⟨?_, ?_⟩, hb⟩
    · subst hW; exact cell_new 0 hb rfl
    · subst hW; exact cell_new 1 hb rfl
  have KEEP := hid keep
  have DC := hid (fun w' hL => decimal_any t (by omega) w' hL)
  have hlen := decDigits_length t
  have hn5 : nDigits t ≤ 20 := nDigits_le20 t (by omega)
  have HF := hid (show (fieldB (t, v)).length = nDigits t + 1 + v.length + 1 from fieldB_len (t, v))
  obtain ⟨D, hD⟩ : ∃ D, decDigits t = D := ⟨_, rfl⟩
  rw [hD] at DC hlen
  rw [← hlen] at HF hn5
  clear keep hL hlen hD
  have HV := hid hv
  have hwt : IntKind.u64.wrap (t : Int) = (t : Int) := by rw [IntKind.wrap_u64]; omega
  have hw1 : IntKind.i64.wrap ((D.length : Int) + 1) = (D.length : Int) + 1 := by rw [IntKind.wrap_i64]; omega
  have hw2 : IntKind.i64.wrap ((D.length : Int) + 1 + (v.length : Int)) = (D.length : Int) + 1 + (v.length : Int) := by rw [IntKind.wrap_i64]; omega
  have hw3 : IntKind.i64.wrap ((D.length : Int) + 1 + (v.length : Int) + 1) = (D.length : Int) + 1 + (v.length : Int) + 1 := by rw [IntKind.wrap_i64]; omega
  go_enter Tryd.func24, Tryd.ntmps24
  go_wp2
  (try rw [hW])
  clear hW
  go_region_held3 (fun w' => (w'.cell? ⟨w.heap.size, 0, none⟩ = some (.int .i64 t) ∧ w'.cell? ⟨w.heap.size, 1, none⟩ = some (.string ⟨v.toArray⟩)) ∧ Below W.heap.size W w')
    (first | exact KEEP.out _ (Below.drew (Below.refl _ _)) | exact KEEP.out _ HK.out)
    (first
    | (go_at_call 26; refine (DC.out _ (by first | exact HLW.out.on (Below.drew (Below.refl _ _)) | exact HLW.out.on HK.out)).mono ?_; rintro e wx ⟨rfl, hbk⟩; have HK := hid (show Below W.heap.size W wx from (by first | exact btr' HK.out hbk | exact btr' (Below.drew (Below.refl _ _)) hbk)); clear hbk))
  all_goals
    go_wp2
    go_ret
    refine ⟨?_, btr' HB0.out HK.out⟩
    rw [HF.out]
    first | rfl | (congr 2; simp; omega) | (congr 2; omega)

/-- bytes in a slice of one's own. -/
def Own (B : Nat) (W0 w : World) (v : Value) (l : List UInt8) : Prop := w.ownsRow B 5 1 v l.length (byteCells l) ∧ Below B W0 w ∧ B ≤ w.heap.size
theorem Own.on {B : Nat} {W0 w w' : World} {v : Value} {l : List UInt8} (h : Own B W0 w v l) (hb : Below w.heap.size w w') : Own B W0 w' v l := by
  obtain ⟨⟨h1, h2⟩, h3, h4⟩ := h
  refine ⟨⟨h1, ?_⟩, h3.trans (hb.mono h4), Nat.le_trans h4 hb.size⟩
  rcases h2 with h2 | ⟨g, cap, cur, e, hB, hg, r⟩
  · exact Or.inl h2
  · refine Or.inr ⟨g, cap, cur, e, hB, ?_, r⟩
    have hlt : g < w.heap.size := by
      rcases Nat.lt_or_ge g w.heap.size with h | h
      · exact h
      · rw [Array.getElem?_eq_none h] at hg; cases hg
    rw [hb.block g hlt]; exact hg
theorem Own.form {B : Nat} {W0 w : World} {v : Value} {l : List UInt8} (h : Own B W0 w v l) : ∃ q cap, v = .slice q l.length cap ∧ Sb w q l := by
  obtain ⟨⟨h1, h2⟩, h3, h4⟩ := h
  rcases h2 with ⟨rfl, hn⟩ | ⟨g, cap, cur, e, hB, hg, h5, h6, h7, h8⟩
  · exact ⟨none, 0, by rw [hn], fun i hi => by omega⟩
  · refine ⟨some ⟨g, 0, none⟩, cap, e, fun i hi => ⟨g, 0, rfl, ?_⟩⟩
    have hc := World.ownsRow.cells (w := w) (base := B) (e := 5) (size := 1) (v := v) (n := l.length) (xs := byteCells l) ⟨h1, Or.inr ⟨g, cap, cur, e, hB, hg, h5, h6, h7, h8⟩⟩ (g := g) (by rw [e]; rfl) i (.int .u8 (l[i].toNat : Int)) (by unfold byteCells; rw [List.getElem?_map, List.getElem?_eq_getElem hi]; rfl)
    rw [Addr.add_mid] at hc
    exact hc
theorem info5all : (Tryd.prog.info? 5).map (fun i => (i.zero, i.size, i.bytes)) = some (some (.int .u8 0), 1, 1) := by kernel_rfl
/-- a tag in a block of its own. -/
def Bx (w : World) (b : Nat) (t : Int) (v : List UInt8) : Prop := w.heap[b]? = some (.cells #[.int .i64 t, .string ⟨v.toArray⟩] 64 (0, 0))
def Kx (w w' : World) : Prop := ∀ b t v, Bx w b t v → Bx w' b t v
theorem Bx.lt {w : World} {b : Nat} {t : Int} {v : List UInt8} (h : Bx w b t v) : b < w.heap.size := by
  unfold Bx at h
  rcases Nat.lt_or_ge b w.heap.size with h' | h'
  · exact h'
  · rw [Array.getElem?_eq_none h'] at h; cases h
theorem Bx.cell {w : World} {b : Nat} {t : Int} {v : List UInt8} (h : Bx w b t v) : w.cell? ⟨b, 0, none⟩ = some (.int .i64 t) ∧ w.cell? ⟨b, 1, none⟩ = some (.string ⟨v.toArray⟩) := by
  unfold Bx at h
  simp [World.cell?, h]
theorem Bx.on {w w' : World} {b : Nat} {t : Int} {v : List UInt8} (h : Bx w b t v) (hb : Below w.heap.size w w') : Bx w' b t v := by
  unfold Bx
  rw [hb.block b h.lt]; exact h
theorem Kx.of {w w' : World} (hb : Below w.heap.size w w') : Kx w w' := fun b t v h => h.on hb
theorem Kx.trans {a b c : World} (h : Kx a b) (k : Kx b c) : Kx a c := fun x t v hx => k x t v (h x t v hx)
theorem Kx.refl (a : World) : Kx a a := fun x t v hx => hx
theorem bx_new (w : World) (t : Int) (v : List UInt8) : Bx (w.alloc (.cells #[.int .i64 t, .string ⟨v.toArray⟩] 64)) w.heap.size t v := by
  show (w.heap.push _)[w.heap.size]? = _
  simp
theorem Own.kx {B : Nat} {W0 w w' : World} {v : Value} {l : List UInt8} (h : Own B W0 w v l) (hg : w.grownBy w' v.ownBlock) : Kx w w' := fun b t x hx => by
  have hne := ownBlock_neF (World.ownsRowF_of h.1) hx (by decide)
  unfold Bx
  rw [hg.block b hx.lt (fun e => hne e.symm)]
  exact hx
theorem own_text {ops : Array Oper} {rest : List Oper} {o : Oper} {a : Act} {Q : Exit → Act → World → Prop} {w : World} (hgd : o.guard = none) (sl x : Operand)
    (ho : o.op = .call { callee := .builtin .append, args := #[sl, x], argTypes := #[26, 9] }) (B : Nat) (v : Value) (l : List UInt8) (hs : a.eval sl = v) (W0 : World) (hb : Own B W0 w v l) (t : List UInt8) (hx : a.eval x = .string ⟨t.toArray⟩) (hlen : l.length + t.length ≤ 140737488355328)
    (h : ∀ v' w', Own B W0 w' v' (l ++ t) → Kx w w' → wpList Tryd.prog ops Q rest (a.put o.dst v') w') : wpList Tryd.prog ops Q (o :: rest) a w := by
  obtain ⟨i0, hi, hz0, hz1, hz2⟩ := info_parts info5all
  have hsz : (⟨t.toArray⟩ : ByteArray).size = t.length := by simp [ByteArray.size]
  refine wpList_append_own_string w hgd sl x 26 9 ho B 5 i0 Tryd.underlying26 Tryd.underlying9 hi hz0 hz1 hz2 v l.length _ hs hb.1 ⟨t.toArray⟩ hx (by unfold maxLen; rw [hsz]; omega) (by rw [hsz]; exact hlen) hb.2.2 ?_
  intro v' w' ho' hg _
  refine h v' w' ?_ (hb.kx hg)
  have hO : w'.ownsRow B 5 1 v' _ _ ∧ Below B W0 w' ∧ B ≤ w'.heap.size := ⟨ho', hb.2.1.grown hg hb.2.2 (fun k hk => (hb.1.lt k hk).1), Nat.le_trans hb.2.2 hg.size⟩
  unfold Own
  rw [byteCells_append, List.length_append, ← strCells_toArray t, ← hsz]
  exact hO
theorem own_byte {ops : Array Oper} {rest : List Oper} {o : Oper} {a : Act} {Q : Exit → Act → World → Prop} (hgd : o.guard = none) (sl x : Operand)
    (ho : o.op = .call { callee := .builtin .append, args := #[sl, x], argTypes := #[26, 26] }) (B : Nat) (v : Value) (l : List UInt8) (hs : a.eval sl = v) (W0 w0 : World) (c : UInt8) (z : Int) (hz : z = (c.toNat : Int)) (hb0 : Own B W0 w0 v l) (hx : a.eval x = .slice (some ⟨w0.heap.size, 0, none⟩) 1 1) (hlen : l.length + 1 ≤ 140737488355328)
    (h : ∀ v' w', Own B W0 w' v' (l ++ [c]) → Kx w0 w' → wpList Tryd.prog ops Q rest (a.put o.dst v') w') : wpList Tryd.prog ops Q (o :: rest) a (w0.alloc (.cells #[.int .u8 z] 5)) := by
  subst hz
  obtain ⟨i0, hi, hz0, hz1, hz2⟩ := info_parts info5all
  have hb' : Own B W0 (w0.alloc (.cells #[.int .u8 (c.toNat : Int)] 5)) v l := hb0.on (ball _ _)
  refine wpList_append_own _ hgd sl x 26 ho B 5 i0 (.int .u8 0) 1 1 Tryd.underlying26 hi hz0 hz1 hz2 rfl (by decide) v l.length _ hs hb'.1 ⟨w0.heap.size, 0, none⟩ 1 1 [.int .u8 (c.toNat : Int)] hx rfl ?_ ?_ (by unfold maxLen; omega) (by omega) hb'.2.2 ?_
  · intro j u hj
    match j, hj with
    | 0, hj => simp at hj; subst hj; simp [Addr.add]
    | (j + 1), hj => simp at hj
  · intro u hu; simp at hu; subst hu; rfl
  · intro v' w' ho' hg _
    refine h v' w' ?_ ((Kx.of (ball _ _)).trans (hb'.kx hg))
    have hO : w'.ownsRow B 5 1 v' _ _ ∧ Below B W0 w' ∧ B ≤ w'.heap.size := ⟨ho', hb'.2.1.grown hg hb'.2.2 (fun k hk => (hb'.1.lt k hk).1), Nat.le_trans hb'.2.2 hg.size⟩
    unfold Own
    rw [byteCells_append, List.length_append]
    exact hO

set_option maxHeartbeats 4000000 in
set_option maxRecDepth 100000 in
/-- text.appendField. -/
theorem appendfield_any (B : Nat) (W0 : World) (sv : Value) (l : List UInt8) (t : Nat) (v : List UInt8) (w : World) (ht : t < 10000) (hv : l.length + v.length ≤ 140737488355000) (hO : Own B W0 w sv l) (hL : Lay w) :
    Calls Tryd.prog 27 #[sv, .agg #[.int .i64 t, .string ⟨v.toArray⟩]] w fun e w' => ∃ sv', e = .returned sv' ∧ Own B W0 w' sv' (l ++ fieldB (t, v)) ∧ Kx w w' := by
  have HO := hid (hO.on (ball w (.cells #[.int .i64 t, .string ⟨v.toArray⟩] 64)))
  have HL := hid (hL.alloc (.cells #[.int .i64 t, .string ⟨v.toArray⟩] 64))
  have K0 := hid (Kx.of (ball w (.cells #[.int .i64 t, .string ⟨v.toArray⟩] 64)))
  have B0 := hid (bx_new w t v)
  have DC := hid (fun w' hL => decimal_any t (by omega) w' hL)
  have hlen := decDigits_length t
  have hn5 : nDigits t ≤ 20 := nDigits_le20 t (by omega)
  have HF := hid (show l ++ fieldB (t, v) = (((l ++ decDigits t) ++ [61]) ++ v) ++ [1] by unfold fieldB; simp)
  obtain ⟨D, hD⟩ : ∃ D, decDigits t = D := ⟨_, rfl⟩
  rw [hD] at DC hlen HF
  rw [← hlen] at hn5
  have hwt : IntKind.u64.wrap (t : Int) = (t : Int) := by rw [IntKind.wrap_u64]; omega
  clear hO hL hlen hD
  go_enter Tryd.func27, Tryd.ntmps27
  go_wp2_with (first | (go_at_call 26; refine (DC.out _ HL.out).mono ?_; rintro e w1 ⟨rfl, hb⟩; have O1 := hid (HO.out.on hb); have B1 := hid (B0.out.on hb); have K1 := hid (K0.out.trans (Kx.of hb)); clear hb) | (at_builtin; refine own_text (by rfl) (.tmp 5) (.tmp 9) (by rfl) B sv l (by rfl) W0 O1.out D (by rfl) (by omega) ?_; intro v2 w2 hO2 hK2; have O2 := hid hO2; have B2 := hid (hK2 _ _ _ B1.out); have K2 := hid (K1.out.trans hK2); clear hO2 hK2) | (at_builtin; refine own_byte (by rfl) (.tmp 11) (.tmp 12) (by rfl) B v2 _ (by rfl) W0 w2 61 61 (by decide) O2.out (by rfl) (by simp; omega) ?_; intro v3 w3 hO3 hK3; have O3 := hid hO3; have hc3 := (hK3 _ _ _ B2.out).cell.2; have K3 := hid (K2.out.trans hK3); clear hO3 hK3) | (at_builtin; refine own_text (by rfl) (.tmp 14) (.tmp 16) (by rfl) B v3 _ (by rfl) W0 O3.out v (by rfl) (by simp; omega) ?_; intro v4 w4 hO4 hK4; have O4 := hid hO4; have K4 := hid (K3.out.trans hK4); clear hO4 hK4) | (at_builtin; refine own_byte (by rfl) (.tmp 18) (.tmp 19) (by rfl) B v4 _ (by rfl) W0 w4 1 1 (by decide) O4.out (by rfl) (by simp; omega) ?_; intro v5 w5 hO5 hK5; have O5 := hid hO5; have K5 := hid (K4.out.trans hK5); clear hO5 hK5))
  go_ret
  exact ⟨_, rfl, by rw [HF.out]; exact O5.out, K5.out⟩

/-- the field with the check sum of all bytes ahead of it. -/
def trailB (l : List UInt8) : List UInt8 := [49, 48, 61] ++ (decDigits (1000 + sumB l)).drop 1 ++ [1]
set_option maxHeartbeats 4000000 in
set_option maxRecDepth 100000 in
/-- text.trail. -/
theorem trail_any (l : List UInt8) (q : Option Addr) (cap : Nat) (w : World) (hl : l.length < 9223372036854775808) (hS : Sb w q l) (hL : Lay w) :
    Calls Tryd.prog 28 #[.slice q l.length cap] w fun e w' => e = .returned (.string ⟨(trailB l).toArray⟩) ∧ Below w.heap.size w w' := by
  have HS := hid (sum_any l q cap w hl hS)
  have hlt := sumB_lt l
  have HT := hid (show trailB l = [49, 48, 61] ++ (decDigits (1000 + sumB l)).drop 1 ++ [1] from rfl)
  obtain ⟨s, hs⟩ : ∃ s, sumB l = s := ⟨_, rfl⟩
  rw [hs] at HS hlt HT
  have DC := hid (decimal_any (1000 + s) (by omega) w hL)
  have hlen := decDigits_length (1000 + s)
  have h4 : nDigits (1000 + s) = 4 := nDigits_unique 3 _ (by omega) (by omega)
  rw [h4] at hlen
  obtain ⟨D, hD⟩ : ∃ D, decDigits (1000 + s) = D := ⟨_, rfl⟩
  rw [hD] at DC hlen HT
  obtain ⟨d0, d1, d2, d3, rfl⟩ : ∃ a b c d, D = [a, b, c, d] := by
    match D, hlen with
    | [a, b, c, d], _ => exact ⟨a, b, c, d, rfl⟩
  rw [show ((1000 + s : Nat) : Int) = 1000 + (s : Int) by omega] at DC
  clear hs hD hlen h4 hL hS
  go_enter Tryd.func28, Tryd.ntmps28
  go_wp2_with (first | (go_at_call 43; refine HS.out.mono ?_; rintro e w1 ⟨rfl, rfl⟩) | (go_at_call 26; refine DC.out.mono ?_; rintro e w1 ⟨rfl, hb⟩))
  go_ret
  refine ⟨?_, hb⟩
  rw [HT.out]
  rfl
end Go.Proofs.YtolabllgnfpfaaaDoor
