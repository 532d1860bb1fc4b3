/-
  The document's All.
-/
import Derived.Test.YtndpihbillfhbaaDoorWaV
namespace Go.Proofs.YtndpihbillfhbaaDoor
open Go.RowKit Go.Deep Crc
set_option linter.unusedVariables false
set_option linter.unusedSimpArgs false
set_option maxRecDepth 100000
set_option maxHeartbeats 2000000
/-- what the document tells, in a slice of one's own. -/
def OwD (base : Nat) (w : World) (v : Value) (l : List (Value × Int)) : Prop := w.ownsRow base 44 9 v l.length (pws l)
theorem info44all : (Tryd.prog.info? 44).map (fun i => (i.zero, i.size, i.bytes)) = some (some (.agg #[.int .u8 0, .int .u64 0, .int .u64 0, .int .u64 0, .int .u64 0, .int .u64 0, .int .u64 0, .int .u64 0, .int .i64 0]), 9, 72) := by kernel_rfl
/-- what the document tells is laid behind. -/
theorem wpList_appD (w : World) {ops : Array Oper} {rest : List Oper} {o : Oper} {a : Act} {Q : Exit → Act → World → Prop} (hgd : o.guard = none) (s x : Operand)
    (ho : o.op = .call { callee := .builtin .append, args := #[s, x], argTypes := #[41, 41] }) (base : Nat) (v : Value) (vs : List (Value × Int)) (hs : a.eval s = v) (hown : OwD base w v vs)
    (g : Nat) (e : Value × Int) (hx : a.eval x = .slice (some ⟨g, 0, none⟩) 1 1) (h9 : (pw e).length = 9) (h1 : ∀ u ∈ pw e, u.oneCell' = true) (hc : ∀ j u, (pw e)[j]? = some u → w.cell? ⟨g, j, none⟩ = some u) (hn : vs.length ≤ 1099511627776) (hbase : base ≤ w.heap.size)
    (h : ∀ p' c' w', OwD base w' (.slice p' (vs ++ [e]).length c') (vs ++ [e]) → w.grownBy w' v.ownBlock → wpList Tryd.prog ops Q rest (a.put o.dst (.slice p' (vs ++ [e]).length c')) w') : wpList Tryd.prog ops Q (o :: rest) a w := by
  obtain ⟨i0, hi, hz0, hz1, hz2⟩ := info_parts info44all
  refine wpList_append_own w hgd s x 41 ho base 44 i0 (.agg #[.int .u8 0, .int .u64 0, .int .u64 0, .int .u64 0, .int .u64 0, .int .u64 0, .int .u64 0, .int .u64 0, .int .i64 0]) 9 72 Tryd.underlying41 hi hz0 hz1 hz2 rfl (by decide) v vs.length (pws vs) hs hown ⟨g, 0, none⟩ 1 1 (pw e) hx (by rw [h9]) (fun j u hj => by rw [Addr.add_mid, Nat.zero_add]; exact hc j u hj) h1 (by unfold maxLen; omega) (by omega) hbase ?_
  intro v' w' k1 k2 k3
  have k4 : OwD base w' v' (vs ++ [e]) := by
    unfold OwD
    rw [pws_append, List.length_append]
    simpa [pws] using k1
  obtain ⟨p', c', hv⟩ := own_form k4
  subst hv
  exact h p' c' w' k4 k2
/-- what is told so far, and what is still held. -/
structure Pj (cat ys : List Nat) (vs : List (Value × Int)) (j : Nat) : Prop where
  le : 64 * j ≤ cat.length
  ys : ys = cat.drop (64 * j)
  tl : Tl (chs (cat.take (64 * j))) vs
theorem Pj.nil : Pj [] [] [] 0 := ⟨Nat.zero_le _, rfl, by simp [chs_nil, Tl]⟩
theorem Pj.len {cat ys : List Nat} {vs : List (Value × Int)} {j : Nat} (h : Pj cat ys vs j) : vs.length = j := by
  have := h.tl.len
  rw [chs_len j _ (by rw [List.length_take]; have := h.le; omega)] at this
  exact this.symm
theorem Pj.feed {cat ys : List Nat} {vs : List (Value × Int)} {j : Nat} (h : Pj cat ys vs j) (xs : List Nat) : Pj (cat ++ xs) (ys ++ xs) vs j := by
  refine ⟨by have := h.le; rw [List.length_append]; omega, ?_, ?_⟩
  · rw [List.drop_append_of_le_length h.le, h.ys]
  · rw [List.take_append_of_le_length h.le]; exact h.tl
theorem Pj.next {cat ys : List Nat} {vs : List (Value × Int)} {j : Nat} (h : Pj cat ys vs j) (hl : 64 ≤ ys.length) {V : Value} {E : Int} (hU : UnpR (ys.take 64) V E) : Pj cat (ys.drop 64) (vs ++ [(V, E)]) (j + 1) := by
  have hy : ys.length = cat.length - 64 * j := by rw [h.ys, List.length_drop]
  have hle := h.le
  refine ⟨by omega, ?_, ?_⟩
  · rw [h.ys, List.drop_drop]; congr 1
  · have e : cat.take (64 * (j + 1)) = cat.take (64 * j) ++ ys.take 64 := by
      rw [h.ys, show 64 * (j + 1) = 64 * j + 64 by omega, List.take_add]
    rw [e, chs_append j (cat.take (64 * j)) (ys.take 64) (by rw [List.length_take]; omega), chs_one (a := ys.take 64) (by rw [List.length_take]; omega)]
    exact h.tl.append (show Tl [ys.take 64] [(V, E)] from ⟨hU, trivial⟩)
theorem Pj.done {cat ys : List Nat} {vs : List (Value × Int)} {j : Nat} (h : Pj cat ys vs j) (he : ys = []) : Tl (chs cat) vs := by
  have e : cat = cat.take (64 * j) := by
    have h1 := h.ys
    rw [he] at h1
    have h2 := congrArg List.length h1
    simp at h2
    rw [List.take_of_length_le (by omega)]
  rw [e]; exact h.tl
theorem Pj.short {cat ys : List Nat} {vs : List (Value × Int)} {j : Nat} (h : Pj cat ys vs j) (h0 : 0 < ys.length) (h1 : ys.length < 64) : Tl (chs cat) (vs ++ [(.agg fz, 20)]) := by
  have e : cat = cat.take (64 * j) ++ ys := by rw [h.ys, List.take_append_drop]
  rw [e, chs_append j (cat.take (64 * j)) ys (by rw [List.length_take]; have := h.le; omega)]
  refine h.tl.append ?_
  have hne : ys ≠ [] := by rintro rfl; simp at h0
  rw [chs_ne hne, List.take_of_length_le (by omega), List.drop_eq_nil_of_le (by omega), chs_nil]
  exact (show Tl [ys] [(.agg fz, 20)] from ⟨.inl ⟨h1, rfl, rfl⟩, trivial⟩)
theorem fz_eq : fz = #[.int .u8 0, .int .u64 0, .int .u64 0, .int .u64 0, .int .u64 0, .int .u64 0, .int .u64 0, .int .u64 0] := by rfl
/-- what is left of bytes that lie. -/
def Rs2 (w : World) (xs : List Nat) (g o : Nat) (off : Nat) (iv : Value) : Prop :=
  (xs.length = off ∧ ∃ p cap, iv = .slice p 0 cap) ∨ ∃ cap, off < xs.length ∧ iv = .slice (some ⟨g, o + off, none⟩) (xs.length - off) cap ∧ xs.length - off ≤ cap
theorem rall_any (p : Option Addr) (c : Nat) (xs : List Nat) (w : World) (hS : Sq w p c xs) (hx : Oct xs) (hlen : xs.length ≤ 1048576) :
    Calls Tryd.prog 18 #[.slice p xs.length c] w fun e w' => ∃ (vs : List (Value × Int)) (p' : Option Addr) (c' : Nat), e = .returned (.slice p' vs.length c') ∧ Hid (Tl (chs xs) vs) ∧ Hid (OwD w.heap.size w' (.slice p' vs.length c') vs) ∧ Hid (Below w.heap.size w w') := by
  obtain ⟨g, o, hR0, hB0⟩ : ∃ g o, Rs2 w xs g o 0 (.slice p xs.length c) ∧ (xs = [] ∨ (g < w.heap.size ∧ Bs w g o xs)) := by
    rcases hS.bs with rfl | ⟨b, o, rfl, hb⟩
    · exact ⟨0, 0, .inl ⟨rfl, p, c, rfl⟩, .inl rfl⟩
    · by_cases h0 : xs = []
      · subst h0; exact ⟨0, 0, .inl ⟨rfl, _, _, rfl⟩, .inl rfl⟩
      · have h1 : 0 < xs.length := List.length_pos_iff.2 h0
        exact ⟨b, o, .inr ⟨c, h1, by simp, by have := hS.le; omega⟩, .inr ⟨block_lt_of_cell (hb 0 h1), hb⟩⟩
  have HR0 := hid hR0
  have HB0 := hid hB0
  have HX := hid hx
  clear hR0 hB0 hS hx
  go_enter Tryd.func18, Tryd.ntmps18
  go_wp2_with fail
  go_loopw [0, 3] (fun iv dv wr => ∃ (j : Nat) (vs : List (Value × Int)) (pd : Option Addr) (cd : Nat), dv = .slice pd vs.length cd ∧ Hid (Rs2 w xs g o (64 * j) iv) ∧ Hid (Pj xs (xs.drop (64 * j)) vs j) ∧ Hid (OwD w.heap.size wr (.slice pd vs.length cd) vs) ∧ Hid (Below w.heap.size w wr)) (fun iv _ _ => slen iv)
  case atStart => exact ⟨0, [], none, 0, rfl, HR0, hid ⟨Nat.zero_le _, rfl, by simp [chs_nil, Tl]⟩, hid ⟨rfl, .inl ⟨rfl, rfl⟩⟩, hid (Below.refl _ _)⟩
  case round =>
    clear HR0
    obtain ⟨j, vs, pd, cd, rfl, HR, HJ, HD, HB⟩ := hrel
    have hvl : vs.length ≤ 1099511627776 := by have := HJ.out.len; have := HJ.out.le; omega
    have hle := HJ.out.le
    by_cases h64 : 64 ≤ xs.length - 64 * j
    · rcases HR.out with ⟨he, _⟩ | ⟨cap, hlt, rfl, hcap⟩
      · omega
      · obtain ⟨off, hof⟩ : ∃ off, 64 * j = off := ⟨_, rfl⟩
        have HOF := hid hof
        rw [hof] at HJ hlt hcap h64 hle ⊢
        obtain ⟨m, hm⟩ : ∃ m, xs.length - off = m := ⟨_, rfl⟩
        have HM := hid hm
        rw [hm] at hcap h64 ⊢
        have HU := hid (show Calls Tryd.prog 16 #[.slice (some ⟨g, o + off, none⟩) 64 cap] wr fun e w' => (∃ V E, e = .returned (.tuple #[V, .int .i64 E]) ∧ UnpR ((xs.drop off).take 64) V E) ∧ Below wr.heap.size wr w' from by
          have hl : ((xs.drop off).take 64).length = 64 := by simp; omega
          have h1 := runp_rel (.slice (some ⟨g, o + off, none⟩) ((xs.drop off).take 64).length cap) ((xs.drop off).take 64) wr (by rw [hl]; omega) (fun x hx => HX.out x (List.mem_of_mem_drop (List.mem_of_mem_take hx))) (.inr ⟨g, o + off, cap, rfl, fun i hi => by
            rcases HB0.out with h0 | ⟨hg, hb⟩
            · rw [h0] at hlt; simp at hlt
            · have := (HB.out.cell (p := ⟨g, o + (off + i), none⟩) hg).trans (hb (off + i) (by simp at hi; omega))
              rw [← Nat.add_assoc] at this
              simpa using this⟩)
          rw [hl] at h1
          exact h1)
        have q2 : (64 : Int) ≤ (cap : Int) := by omega
        have q3 : (64 : Int) ≤ (m : Int) := by omega
        clear hm hof hle hlt
        have HU2 := hid (show Calls Tryd.prog 16 #[.slice (some ⟨g, o + off, none⟩) 64 cap] wr fun e w' => ∃ k a0 a1 a2 a3 a4 a5 a6 : Nat, ∃ E, e = .returned (.tuple #[.agg #[.int .u8 (k : Nat), .int .u64 (a0 : Nat), .int .u64 (a1 : Nat), .int .u64 (a2 : Nat), .int .u64 (a3 : Nat), .int .u64 (a4 : Nat), .int .u64 (a5 : Nat), .int .u64 (a6 : Nat)], .int .i64 E]) ∧ Hid (UnpR ((xs.drop off).take 64) (.agg #[.int .u8 (k : Nat), .int .u64 (a0 : Nat), .int .u64 (a1 : Nat), .int .u64 (a2 : Nat), .int .u64 (a3 : Nat), .int .u64 (a4 : Nat), .int .u64 (a5 : Nat), .int .u64 (a6 : Nat)]) E) ∧ Hid (Below wr.heap.size wr w') from HU.out.mono (by
          rintro e w' ⟨⟨V, E, rfl, hU⟩, hb⟩
          obtain ⟨k, a0, a1, a2, a3, a4, a5, a6, rfl⟩ := hU.form
          exact ⟨k, a0, a1, a2, a3, a4, a5, a6, E, rfl, hid hU, hid hb⟩))
        clear HU
        have hcc : m = 64 ∨ (64 < m ∧ ¬ cap = 64) := by omega
        have H64 := hid (show 64 ≤ (xs.drop off).length by rw [List.length_drop]; have := HM.out; omega)
        have q4 : (0 : Int) ≤ (64 : Int) := by omega
        rcases hcc with hcc | ⟨hc1, hc2⟩
        case' inr => have HC1 := hid hc1
        case' inl => have HC1 := hid hcc
        case' inl => clear hcc
        case' inr => clear hc1
        all_goals
          go_wp2_with (first | (go_at_call 16; with_reducible refine (HU2.out).mono ?_; rintro e w4 ⟨k, a0, a1, a2, a3, a4, a5, a6, E, rfl, HUN, HB4⟩; refine Hid.out ?_))
          have HB6 := hid (show Below wr.heap.size wr ((w4.alloc (.cells #[.int .u8 (k : Nat), .int .u64 (a0 : Nat), .int .u64 (a1 : Nat), .int .u64 (a2 : Nat), .int .u64 (a3 : Nat), .int .u64 (a4 : Nat), .int .u64 (a5 : Nat), .int .u64 (a6 : Nat)] 31)).alloc (.cells #[.int .u8 (k : Nat), .int .u64 (a0 : Nat), .int .u64 (a1 : Nat), .int .u64 (a2 : Nat), .int .u64 (a3 : Nat), .int .u64 (a4 : Nat), .int .u64 (a5 : Nat), .int .u64 (a6 : Nat), .int .i64 E] 44)) from (HB4.out.alloc HB4.out.size _).alloc (by have := HB4.out.size; simp; omega) _)
          have HD6 := hid (show OwD w.heap.size ((w4.alloc (.cells #[.int .u8 (k : Nat), .int .u64 (a0 : Nat), .int .u64 (a1 : Nat), .int .u64 (a2 : Nat), .int .u64 (a3 : Nat), .int .u64 (a4 : Nat), .int .u64 (a5 : Nat), .int .u64 (a6 : Nat)] 31)).alloc (.cells #[.int .u8 (k : Nat), .int .u64 (a0 : Nat), .int .u64 (a1 : Nat), .int .u64 (a2 : Nat), .int .u64 (a3 : Nat), .int .u64 (a4 : Nat), .int .u64 (a5 : Nat), .int .u64 (a6 : Nat), .int .i64 E] 44)) (.slice pd vs.length cd) vs from own_same HD.out (fun g' hg => by
            obtain ⟨cur, e⟩ := own_ty HD.out hg
            exact HB6.out.block _ (Array.getElem?_eq_some_iff.1 e).1))
          have HC6 := hid (show ∀ (jj : Nat) (u : Value), (pw (.agg #[.int .u8 (k : Nat), .int .u64 (a0 : Nat), .int .u64 (a1 : Nat), .int .u64 (a2 : Nat), .int .u64 (a3 : Nat), .int .u64 (a4 : Nat), .int .u64 (a5 : Nat), .int .u64 (a6 : Nat)], E))[jj]? = some u → ((w4.alloc (.cells #[.int .u8 (k : Nat), .int .u64 (a0 : Nat), .int .u64 (a1 : Nat), .int .u64 (a2 : Nat), .int .u64 (a3 : Nat), .int .u64 (a4 : Nat), .int .u64 (a5 : Nat), .int .u64 (a6 : Nat)] 31)).alloc (.cells #[.int .u8 (k : Nat), .int .u64 (a0 : Nat), .int .u64 (a1 : Nat), .int .u64 (a2 : Nat), .int .u64 (a3 : Nat), .int .u64 (a4 : Nat), .int .u64 (a5 : Nat), .int .u64 (a6 : Nat), .int .i64 E] 44)).cell? ⟨w4.heap.size + 1, jj, none⟩ = some u from fun jj u hj => by
            have r6 : ((w4.alloc (.cells #[.int .u8 (k : Nat), .int .u64 (a0 : Nat), .int .u64 (a1 : Nat), .int .u64 (a2 : Nat), .int .u64 (a3 : Nat), .int .u64 (a4 : Nat), .int .u64 (a5 : Nat), .int .u64 (a6 : Nat)] 31)).alloc (.cells #[.int .u8 (k : Nat), .int .u64 (a0 : Nat), .int .u64 (a1 : Nat), .int .u64 (a2 : Nat), .int .u64 (a3 : Nat), .int .u64 (a4 : Nat), .int .u64 (a5 : Nat), .int .u64 (a6 : Nat), .int .i64 E] 44)).heap[w4.heap.size + 1]? = some (.cells #[.int .u8 (k : Nat), .int .u64 (a0 : Nat), .int .u64 (a1 : Nat), .int .u64 (a2 : Nat), .int .u64 (a3 : Nat), .int .u64 (a4 : Nat), .int .u64 (a5 : Nat), .int .u64 (a6 : Nat), .int .i64 E] 44 (0, 0)) := by
              have := World.alloc_heap_new (w4.alloc (.cells #[.int .u8 (k : Nat), .int .u64 (a0 : Nat), .int .u64 (a1 : Nat), .int .u64 (a2 : Nat), .int .u64 (a3 : Nat), .int .u64 (a4 : Nat), .int .u64 (a5 : Nat), .int .u64 (a6 : Nat)] 31)) (.cells #[.int .u8 (k : Nat), .int .u64 (a0 : Nat), .int .u64 (a1 : Nat), .int .u64 (a2 : Nat), .int .u64 (a3 : Nat), .int .u64 (a4 : Nat), .int .u64 (a5 : Nat), .int .u64 (a6 : Nat), .int .i64 E] 44)
              simpa using this
            rw [row_cell r6 jj]
            simpa [pw, Value.cells] using hj)
          have HJ7 := hid (HJ.out.next H64.out HUN.out)
          have hws : w.heap.size ≤ ((w4.alloc (.cells #[.int .u8 (k : Nat), .int .u64 (a0 : Nat), .int .u64 (a1 : Nat), .int .u64 (a2 : Nat), .int .u64 (a3 : Nat), .int .u64 (a4 : Nat), .int .u64 (a5 : Nat), .int .u64 (a6 : Nat)] 31)).alloc (.cells #[.int .u8 (k : Nat), .int .u64 (a0 : Nat), .int .u64 (a1 : Nat), .int .u64 (a2 : Nat), .int .u64 (a3 : Nat), .int .u64 (a4 : Nat), .int .u64 (a5 : Nat), .int .u64 (a6 : Nat), .int .i64 E] 44)).heap.size := Nat.le_trans HB.out.size HB6.out.size
          clear HU2 HUN
          refine hid ?_
          go_wp2_with (first | (at_builtin; refine wpList_appD _ (by rfl) (.tmp 15) (.tmp 19) (by rfl) w.heap.size _ vs (by rfl) HD6.out (w4.heap.size + 1) (.agg #[.int .u8 (k : Nat), .int .u64 (a0 : Nat), .int .u64 (a1 : Nat), .int .u64 (a2 : Nat), .int .u64 (a3 : Nat), .int .u64 (a4 : Nat), .int .u64 (a5 : Nat), .int .u64 (a6 : Nat)], E) (by rfl) (by simp [pw, Value.cells]) (by simp [pw, Value.cells, Value.oneCell']) HC6.out hvl hws ?_; intro pg2 cg2 w7 o7 g7; have HO7 := hid o7; have HG7 := hid g7; clear o7 g7; refine Hid.out ?_))
          have HB7 := hid (show Below w.heap.size w w7 from (HB.out.trans (HB6.out.mono HB.out.size)).grown HG7.out (Nat.le_trans HB.out.size HB6.out.size) (fun jj hj => (World.ownsRow.lt HD6.out jj hj).1))
          refine hid ?_
          go_wp2_with fail
          go_roundw
          case rel =>
            refine ⟨j + 1, _, pg2, cg2, by rw [List.length_append]; rfl, hid ?_, hid ?_, HO7, HB7⟩
            · have h1 := HM.out
              have h2 := HOF.out
              have h3 := HC1.out
              first
              | exact .inl ⟨by omega, _, _, by rw [show m - 64 = 0 by omega]⟩
              | exact .inr ⟨cap - 64, by omega, by rw [show xs.length - 64 * (j + 1) = m - 64 by omega, show o + 64 * (j + 1) = o + off + 64 by omega], by omega⟩
            · have h2 := HOF.out
              have h7 := HJ7.out
              rw [List.drop_drop] at h7
              rw [show 64 * (j + 1) = off + 64 by omega]
              exact h7
          case measure =>
            have h1 := HM.out
            have h3 := HC1.out
            simp [slen]
            omega
    · rcases HR.out with ⟨he, p', cap', rfl⟩ | ⟨cap, hlt, rfl, hcap⟩
      · have HTF := hid (HJ.out.done (List.drop_eq_nil_of_le (by omega)))
        go_wp2_with fail
        go_ret
        exact ⟨vs, pd, cd, rfl, HTF, HD, HB⟩
      · have HTF := hid (HJ.out.short (by rw [List.length_drop]; omega) (by rw [List.length_drop]; omega))
        obtain ⟨off, hof⟩ : ∃ off, 64 * j = off := ⟨_, rfl⟩
        rw [hof] at hlt hcap h64 ⊢
        obtain ⟨m, hm⟩ : ∃ m, xs.length - off = m := ⟨_, rfl⟩
        rw [hm] at hcap h64 ⊢
        have x1 : ¬ (64 : Int) ≤ (m : Int) := by omega
        have x2 : (0 : Int) < (m : Int) := by omega
        have HB6 := hid (show Below wr.heap.size wr (wr.alloc (.cells #[.int .u8 0, .int .u64 0, .int .u64 0, .int .u64 0, .int .u64 0, .int .u64 0, .int .u64 0, .int .u64 0, .int .i64 20] 44)) from (Below.refl _ wr).alloc (Nat.le_refl _) _)
        have HD6 := hid (show OwD w.heap.size (wr.alloc (.cells #[.int .u8 0, .int .u64 0, .int .u64 0, .int .u64 0, .int .u64 0, .int .u64 0, .int .u64 0, .int .u64 0, .int .i64 20] 44)) (.slice pd vs.length cd) vs from own_same HD.out (fun g' hg => by
          obtain ⟨cur, e⟩ := own_ty HD.out hg
          exact HB6.out.block _ (Array.getElem?_eq_some_iff.1 e).1))
        have HC6 := hid (show ∀ (jj : Nat) (u : Value), (pw (.agg fz, 20))[jj]? = some u → (wr.alloc (.cells #[.int .u8 0, .int .u64 0, .int .u64 0, .int .u64 0, .int .u64 0, .int .u64 0, .int .u64 0, .int .u64 0, .int .i64 20] 44)).cell? ⟨wr.heap.size, jj, none⟩ = some u from fun jj u hj => by
          rw [row_cell (World.alloc_heap_new wr (.cells #[.int .u8 0, .int .u64 0, .int .u64 0, .int .u64 0, .int .u64 0, .int .u64 0, .int .u64 0, .int .u64 0, .int .i64 20] 44)) jj]
          rw [fz_eq] at hj
          simpa [pw, Value.cells] using hj)
        have hws : w.heap.size ≤ (wr.alloc (.cells #[.int .u8 0, .int .u64 0, .int .u64 0, .int .u64 0, .int .u64 0, .int .u64 0, .int .u64 0, .int .u64 0, .int .i64 20] 44)).heap.size := Nat.le_trans HB.out.size HB6.out.size
        clear hm hof hle hlt h64 hcap
        go_wp2_with (first | (at_builtin; refine wpList_appD _ (by rfl) (.tmp 26) (.tmp 28) (by rfl) w.heap.size _ vs (by rfl) HD6.out wr.heap.size (.agg fz, 20) (by rfl) (by rw [fz_eq]; simp [pw, Value.cells]) (by rw [fz_eq]; simp [pw, Value.cells, Value.oneCell']) HC6.out hvl hws ?_; intro pg2 cg2 w7 o7 g7; have HO7 := hid o7; have HG7 := hid g7; clear o7 g7; refine Hid.out ?_))
        have HB7 := hid (show Below w.heap.size w w7 from (HB.out.trans (HB6.out.mono HB.out.size)).grown HG7.out hws (fun jj hj => (World.ownsRow.lt HD6.out jj hj).1))
        refine hid ?_
        go_wp2_with fail
        go_ret
        exact ⟨_, pg2, cg2, by rw [List.length_append]; rfl, HTF, HO7, HB7⟩
end Go.Proofs.YtndpihbillfhbaaDoor
