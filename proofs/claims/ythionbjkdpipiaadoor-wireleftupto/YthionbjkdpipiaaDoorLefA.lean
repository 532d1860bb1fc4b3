/-
  WireLeft: the walk.
-/
import Derived.Test.YthionbjkdpipiaaDoorRdB
import Derived.Test.YthionbjkdpipiaaDoorHanA
namespace Go.Proofs.YthionbjkdpipiaaDoor
open Go.RowKit Go.Deep Crc
set_option linter.unusedVariables false
set_option linter.unusedSimpArgs false

/-- a piece: none, or its bytes. -/
def Pc (w : World) (p : Option Addr) (xs : List Nat) : Prop :=
  (xs = [] ∧ p = none) ∨ ∃ ad, p = some ad ∧ ∀ j v, (bv xs)[j]? = some v → w.cell? (ad.add j) = some v
theorem Pc.to {w w' : World} {p : Option Addr} {xs : List Nat} (h : Pc w p xs) (hb : Below w.heap.size w w') : Pc w' p xs := by
  rcases h with h | ⟨ad, e, h⟩
  · exact Or.inl h
  · exact Or.inr ⟨ad, e, fun j v hj => (hb.cell (block_lt_of_cell (h j v hj))).trans (h j v hj)⟩
/-- pieces that came in. -/
def Pcs (w : World) (p : Option Addr) (PS : List (List Nat)) : Prop :=
  ∀ i (h : i < PS.length), ∃ b o, p = some ⟨b, o, none⟩ ∧ ∃ q c, w.cell? ⟨b, o + i, none⟩ = some (.slice q PS[i].length c) ∧ (q = none → c = 0) ∧ Pc w q PS[i]
def tot (PS : List (List Nat)) : Nat := (PS.map List.length).sum
theorem tot_succ (PS : List (List Nat)) (i : Nat) (h : i < PS.length) : tot (PS.take (i + 1)) = tot (PS.take i) + PS[i].length := by
  unfold tot
  rw [List.take_add_one, List.getElem?_eq_getElem h, List.map_append, List.sum_append]
  simp
theorem tot_le (PS : List (List Nat)) (i : Nat) : tot (PS.take i) ≤ tot PS := by
  unfold tot
  conv => rhs; rw [← List.take_append_drop i PS]
  rw [List.map_append, List.sum_append]
  omega
theorem tot_all (PS : List (List Nat)) : tot (PS.take PS.length) = tot PS := by rw [List.take_length]
theorem Rd.low {base base' : Nat} {w : World} {R : Nat} {ys : List Nat} (h : Rd base w R ys) (hb : base' ≤ base) : Rd base' w R ys := by
  obtain ⟨h0, h1, hv, h2, h3⟩ := h
  refine ⟨Nat.le_trans hb h0, h1, hv, h2, ?_⟩
  rcases h3 with h3 | ⟨g, o, cap, cur, e, hbg, r⟩
  · exact Or.inl h3
  · exact Or.inr ⟨g, o, cap, cur, e, Nat.le_trans hb hbg, r⟩

/-- a copy of a piece behind an empty slice of one's own. -/
theorem wpList_append_pc (w : World) {ops : Array Oper} {rest : List Oper} {o : Oper} {a : Act} {Q : Exit → Act → World → Prop} (hgd : o.guard = none) (s x : Operand)
    (ho : o.op = .call { callee := .builtin .append, args := #[s, x], argTypes := #[22, 22] }) (base : Nat) (g : Nat) (hs : a.eval s = .slice (some ⟨g, 0, none⟩) 0 0) (hown : w.ownsRow base 5 1 (.slice (some ⟨g, 0, none⟩) 0 0) 0 [])
    (p : Option Addr) (c : Nat) (xs : List Nat) (hx : a.eval x = .slice p xs.length c) (hc : p = none → c = 0) (hp : Pc w p xs) (hn : xs.length ≤ 140737488355328) (hbase : base ≤ w.heap.size)
    (h : ∀ g' c' w', w'.ownsRow base 5 1 (.slice (some ⟨g', 0, none⟩) xs.length c') xs.length (bv xs) → Below base w w' → wpList Tryd.prog ops Q rest (a.put o.dst (.slice (some ⟨g', 0, none⟩) xs.length c')) w') : wpList Tryd.prog ops Q (o :: rest) a w := by
  obtain ⟨i0, hi, hz0, hz1, hz2⟩ := info_parts info5all
  rcases hp with ⟨rfl, rfl⟩ | ⟨ad, rfl, hcell⟩
  · obtain rfl := hc rfl
    exact wpList_append_own_none hgd s x 22 ho base 5 i0 1 Tryd.underlying22 hi _ 0 [] hs hown hx (by rw [hs] at *; exact h g 0 w (by simpa [bv] using hown) (Below.refl _ _))
  · refine wpList_append_own w hgd s x 22 ho base 5 i0 (.int .u8 0) 1 1 Tryd.underlying22 hi hz0 hz1 hz2 rfl (by decide) _ 0 [] hs hown ad xs.length c (bv xs) hx (by simp [bv_len]) hcell (bv_one _) (by unfold maxLen; omega) (by omega) hbase ?_
    intro v' w' h1 h2 h3
    rw [Nat.zero_add, List.nil_append] at h1
    have hb : Below base w w' := (Below.refl base w).grown h2 hbase (fun j hj => (hown.lt j hj).1)
    rcases h1.2 with ⟨rfl, _⟩ | ⟨g', c', cur, rfl, _⟩
    · exact absurd (h3.1 rfl).1 (by simp)
    · exact h g' c' w' h1 hb

set_option maxHeartbeats 4000000 in
set_option maxRecDepth 100000 in
theorem left_walk (p : Option Addr) (cap : Nat) (PS : List (List Nat)) (w : World) (hP : Pcs w p PS) (hO : ∀ xs ∈ PS, Oct xs) (hT : tot PS ≤ 140737488355328) (hN : PS.length < 9223372036854775807) (hL : Laid w) :
    Calls Tryd.prog 8 #[.slice p PS.length cap] w fun e w' => e = .returned (.bool true) ∧ Below w.heap.size w w' := by
  have HL := hid hL
  have HP := hid hP
  have HOC := hid hO
  clear hL hP hO
  go_enter Tryd.func8, Tryd.ntmps8
  go_wp2_with fail
  refine (lives_any _ HL.out).mono ?_
  rintro e wa ⟨rfl, hb⟩
  have HBa := hid hb
  clear hb
  go_wp2_with fail
  refine (rnew_any wa).mono ?_
  rintro e wb ⟨rfl, hR, hb, hsz⟩
  have HRb := hid (hR.low (base' := w.heap.size) HBa.out.size)
  have HBb := hid (btr HBa.out hb)
  obtain ⟨R, hRn⟩ : ∃ R, wa.heap.size = R := ⟨_, rfl⟩
  rw [hRn] at HRb ⊢
  clear hR hb hsz hRn
  go_wp2_with fail
  go_loopw [4, 5] (fun nv iv wr => ∃ (i : Nat) (ys : List Nat), i ≤ PS.length ∧ iv = .int .i64 i ∧ nv = .int .i64 (tot (PS.take i) : Nat) ∧ ys.length = tot (PS.take i) % 64 ∧ Hid (Rd w.heap.size wr R ys) ∧ Hid (Below w.heap.size w wr)) (fun _ iv _ => PS.length - (intOf iv).toNat)
  case atStart => exact ⟨0, [], by omega, rfl, by simp [tot], by simp [tot], HRb, HBb⟩
  case round =>
    obtain ⟨i, ys, hi, rfl, rfl, hys, HR, HB⟩ := hrel
    have ht := tot_le PS i
    by_cases hlt : i < PS.length
    · obtain ⟨b, o, rfl, q, c, hcl, hqc, hpc⟩ := HP.out i hlt
      have ht1 := tot_succ PS i hlt
      have ht2 := tot_le PS (i + 1)
      have HX := hid (HOC.out _ (List.getElem_mem hlt))
      obtain ⟨xs, hxs⟩ : ∃ xs, PS[i] = xs := ⟨_, rfl⟩
      rw [hxs] at hcl hpc ht1 HX
      have HQC := hid hqc
      have HPC := hid hpc
      have HCL := hid hcl
      clear hqc hpc hcl
      have i0 : (0 : Int) ≤ (i : Int) := by omega
      have i1 : (i : Int) < (PS.length : Int) := by omega
      have HB1 := hid (bal (Below.refl wr.heap.size wr) (.cells #[] 5))
      have HO1 := hid (World.ownsRow_made (base := wr.heap.size) (e := 5) (size := 1) wr #[] 0 (Nat.le_refl _) (Nat.zero_le _) rfl)
      obtain ⟨W1, hW1⟩ : ∃ W, wr.alloc (.cells #[] 5) = W := ⟨_, rfl⟩
      rw [hW1] at HB1 HO1
      have HBW := hid (show Below w.heap.size w W1 from HB.out.trans (HB1.out.mono HB.out.size))
      have HPC1 := hid (HPC.out.to HBW.out)
      have hcl1 : W1.cell? ⟨b, o + i, none⟩ = some (.slice q xs.length c) := (HBW.out.cell (block_lt_of_cell HCL.out)).trans HCL.out
      have hws : wr.heap.size ≤ W1.heap.size := HB1.out.size
      go_wp2_with (first
        | (at_builtin; (refine wpList_append_pc _ (by rfl) (.tmp 23) (.tmp 27) (by rfl) wr.heap.size wr.heap.size (by rfl) HO1.out q c xs (by rfl) HQC.out HPC1.out (by omega) hws ?_; intro g' c' w1 hown1 hb1; have HOW := hid hown1; have HBW1 := hid hb1; clear hown1 hb1)))
      refine (rfeed_any w.heap.size w1 R ys xs ⟨g', 0, none⟩ c' (HR.out.to (HB1.out.trans HBW1.out)) HX.out (fun j u hj => HOW.out.cells (g := g') rfl j u hj) (by omega)).mono ?_
      rintro e w2 ⟨rfl, hr2, hb2⟩
      have HR2 := hid hr2
      have HB2 := hid (show Below w.heap.size w w2 from (HBW.out.trans (HBW1.out.mono HB.out.size)).trans hb2)
      clear hr2 hb2 HOW HBW1 HPC1 hcl1 HBW hW1 HB1 HO1 hws HR HB
      have hcl2 : w2.cell? ⟨b, o + i, none⟩ = some (.slice q xs.length c) := (HB2.out.cell (block_lt_of_cell HCL.out)).trans HCL.out
      have hl2 : (ys ++ xs).length = ys.length + xs.length := List.length_append
      go_wp2_with fail
      go_loopw [6] (fun kv wq => ∃ (k : Nat) (zs : List Nat), kv = .int .i64 k ∧ 64 * k + zs.length = ys.length + xs.length ∧ Hid (Rd w.heap.size wq R zs) ∧ Hid (Below w.heap.size w wq)) (fun kv _ => ys.length + xs.length - (intOf kv).toNat)
      case atStart => exact ⟨0, ys ++ xs, rfl, by omega, HR2, HB2⟩
      case round =>
        obtain ⟨k, zs, rfl, hk, HRQ, HBQ⟩ := hrel
        by_cases h64 : zs.length < 64
        · go_wp2_with fail
          refine (rnext_short w.heap.size wr R zs HRQ.out h64).mono ?_
          rintro e w3 ⟨rfl, hr3, hb3⟩
          have hb4 : Below w3.heap.size w3 ((w3.alloc (.cells fz 31)).setRow w3.heap.size fz) := below_setRow ((Below.refl w3.heap.size w3).alloc (Nat.le_refl _) _) (Nat.le_refl _) _
          have HR4 := hid (hr3.to hb4)
          have HB4 := hid (show Below w.heap.size w ((w3.alloc (.cells fz 31)).setRow w3.heap.size fz) from (HBQ.out.trans (hb3.mono HBQ.out.size)).trans (hb4.mono (Nat.le_trans HBQ.out.size hb3.size)))
          clear hr3 hb3 hb4 HRQ HBQ
          have hzl : zs.length = (tot (PS.take i) + xs.length) % 64 := by omega
          go_wp2_with (first | (refine wpList_store_row (by rfl) 31 (.tmp 7) (.tmp 40) (by rfl) w3.heap.size fz (by rfl) (by rfl) 31 fz (heap_alloc_new _ _) fz_info rfl fz_one ?_))
          refine (rleft_any w.heap.size _ R zs HR4.out).mono ?_
          rintro e w5 ⟨rfl, rfl⟩
          go_wp2_with fail
          go_roundw
          case rel => exact ⟨i + 1, zs, by omega, by go_num, by rw [ht1]; go_num, by rw [ht1]; omega, HR4, HB4⟩
          case measure => simp [intOf]; omega
        · have h64' : 64 ≤ zs.length := by omega
          go_wp2_with fail
          refine (rnext_long w.heap.size wr R zs HRQ.out h64' (by omega) (laid_to HL.out HBQ.out)).mono ?_
          rintro e w3 ⟨⟨V, E, hU, rfl⟩, hr3, hb3⟩
          obtain ⟨k', a0, a1, a2, a3, a4, a5, a6, rfl⟩ := hU.form
          clear hU
          have hl3 : wr.heap.size ≤ w3.heap.size ∨ True := Or.inr trivial
          obtain ⟨G, hG⟩ : ∃ G : Array Value, #[.int .u8 (k' : Nat), .int .u64 (a0 : Nat), .int .u64 (a1 : Nat), .int .u64 (a2 : Nat), .int .u64 (a3 : Nat), .int .u64 (a4 : Nat), .int .u64 (a5 : Nat), .int .u64 (a6 : Nat)] = G := ⟨_, rfl⟩
          have G31 := hid (show (Tryd.prog.info? 31).map (·.size) = some G.size by rw [← hG]; exact info31)
          have G1 := hid (show G.all (·.oneCell') = true by rw [← hG]; exact all_oneCell_toArray (rowF_one k' [a0, a1, a2, a3, a4, a5, a6] 7))
          have GZ := hid (show fz.size = G.size by rw [← hG]; rfl)
          rw [hG]
          clear hG hl3
          have hb4 : Below w3.heap.size w3 ((w3.alloc (.cells fz 31)).setRow w3.heap.size G) := below_setRow ((Below.refl w3.heap.size w3).alloc (Nat.le_refl _) _) (Nat.le_refl _) _
          have HR4 := hid (hr3.to hb4)
          have hws3 : w.heap.size ≤ w3.heap.size := by
            obtain ⟨q0, _, qv, q2, _⟩ := hr3
            have := (Array.getElem?_eq_some_iff.1 q2).1
            omega
          have HB4 := hid (show Below w.heap.size w ((w3.alloc (.cells fz 31)).setRow w3.heap.size G) from (HBQ.out.trans hb3).trans (hb4.mono hws3))
          clear hr3 hb3 hb4 HRQ HBQ
          have hk1 : ¬ (((tot (PS.take i) : Nat) : Int) + (xs.length : Int) < (k : Int) + 1) := by omega
          have hdl : (zs.drop 64).length = zs.length - 64 := by simp
          go_wp2_with (first | (refine wpList_store_row (by rfl) 31 (.tmp 7) (.tmp 40) (by rfl) w3.heap.size G (by rfl) (by rfl) 31 fz (heap_alloc_new _ _) G31.out GZ.out G1.out ?_))
          go_roundw
          case rel => exact ⟨k + 1, zs.drop 64, by go_num, by omega, HR4, HB4⟩
          case measure => simp [intOf]; omega
    · obtain rfl : i = PS.length := by omega
      rw [tot_all] at hys ht
      rw [tot_all]
      go_wp2_with fail
      refine (rclose_any w.heap.size wr R ys HR.out (by omega)).mono ?_
      rintro e w3 ⟨he, hr3, hb3⟩
      have HR3 := hid hr3
      have HB3 := hid (HB.out.trans hb3)
      clear hr3 hb3
      rcases he with ⟨h0, rfl⟩ | ⟨h0, rfl⟩
      · subst h0
        have e1 : ((((tot PS : Nat) : Int) % 64) == 0) = true := by simp at hys ⊢; omega
        go_wp2_with fail
        refine (rleft_any w.heap.size w3 R [] HR3.out).mono ?_
        rintro e w5 ⟨rfl, rfl⟩
        go_wp2
        go_ret
        exact ⟨rfl, HB3.out⟩
      · have e1 : ((((tot PS : Nat) : Int) % 64) == 0) = false := by simp; omega
        go_wp2_with fail
        refine (rleft_any w.heap.size w3 R [] HR3.out).mono ?_
        rintro e w5 ⟨rfl, rfl⟩
        go_wp2
        go_ret
        exact ⟨rfl, HB3.out⟩
end Go.Proofs.YthionbjkdpipiaaDoor
