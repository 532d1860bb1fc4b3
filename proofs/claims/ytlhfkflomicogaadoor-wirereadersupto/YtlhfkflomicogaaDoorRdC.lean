/-
  Readers again, with what each step leaves alone.
-/
import Derived.Test.YtlhfkflomicogaaDoorRdB
namespace Go.Proofs.YtlhfkflomicogaaDoor
open Go.RowKit Go.Deep Crc
set_option linter.unusedVariables false
set_option linter.unusedSimpArgs false

def RdG (base : Nat) (w : World) (R : Nat) (ys : List Nat) (hv : Value) : Prop := base ≤ R ∧ Oct ys ∧ w.heap[R]? = some (.cells #[hv] 68 (0, 0)) ∧ Held w base hv ys
theorem RdG.rd {base : Nat} {w : World} {R : Nat} {ys : List Nat} {hv : Value} (h : RdG base w R ys hv) : Rd base w R ys := ⟨h.1, h.2.1, hv, h.2.2.1, h.2.2.2⟩
theorem RdG.to {w w' : World} {base R : Nat} {ys : List Nat} {hv : Value} (h : RdG base w R ys hv) (hb : Below w.heap.size w w') : RdG base w' R ys hv := by
  obtain ⟨h0, ho, h1, h2⟩ := h
  exact ⟨h0, ho, (hb.block R (Array.getElem?_eq_some_iff.1 h1).1).trans h1, h2.to hb⟩
theorem RdG.put {w : World} {base R : Nat} {hv : Value} (zs : List Nat) (hR : base ≤ R) (h1 : w.heap[R]? = some (.cells #[hv] 68 (0, 0))) (ho : Oct zs) (hv' : Value) (h2 : Held w base hv' zs) : RdG base (w.setCell ⟨R, 0, none⟩ hv') R zs hv' := by
  refine ⟨hR, ho, ?_, ?_⟩
  · rw [heap_setCell_same w R 0 _ 68 _ h1]
    simp
  · rcases h2 with h | ⟨g, o, cap, cur, e, hbg, hg, r1, r2, r3, hB⟩
    · exact Or.inl h
    · have hne : ¬ g = R := by
        intro e2
        rw [e2, h1] at hg
        simp at hg
      refine Or.inr ⟨g, o, cap, cur, e, hbg, ?_, r1, r2, r3, ?_⟩
      · rw [heap_setCell_other _ _ _ _ (by show g ≠ R; exact hne)]; exact hg
      · intro i hi
        rw [World.cell?_setCell_other _ _ _ _ (fun e2 => hne (by have := congrArg Addr.block e2; exact this.symm))]
        exact hB i hi
theorem own_new {w : World} {base : Nat} {e : TypeId} {size : Nat} {v : Value} {n : Nat} {xs : List Value} (h : w.ownsRow base e size v n xs) : ∀ g, v.ownBlock = some g → base ≤ g := fun g hg => (h.lt g hg).1

set_option maxHeartbeats 1000000 in
set_option maxRecDepth 100000 in
theorem rdropG (base : Nat) (w : World) (R : Nat) (ys : List Nat) (n : Nat) (hv : Value) (h : RdG base w R ys hv) (hn : n ≤ ys.length) (hy : 0 < ys.length) (hm : ys.length < 9223372036854775808) :
    Calls Tryd.prog 33 #[.pointer (some ⟨R, 0, none⟩), .int .i64 (n : Nat)] w fun e w' => e = .returned (.tuple #[]) ∧ (∃ hv', RdG base w' R (ys.drop n) hv' ∧ (hv'.ownBlock = hv.ownBlock ∨ hv'.ownBlock = none)) ∧ Below base w w' ∧ w.heap.size ≤ w'.heap.size ∧ ∀ b, ¬ b = R → w'.heap[b]? = w.heap[b]? := by
  obtain ⟨h0, ho, h1, h2⟩ := h
  have hb0 : ∀ v, Below base w (w.setCell ⟨R, 0, none⟩ v) := fun v => (Below.refl _ _).setCell h0 _
  rcases h2 with ⟨rfl, rfl⟩ | ⟨g, o, cap, cur, rfl, hbg, hg, r1, r2, r3, hB⟩
  · simp at hy
  have hc : w.cell? ⟨R, 0, none⟩ = some (.slice (some ⟨g, o, none⟩) ys.length cap) := by rw [cell_of_row w R 0 _ _ _ h1]; rfl
  have hf : w.frozen? ⟨R, 0, none⟩ = false := frozen_of_row w R 0 _ _ h1
  have n0 : (0 : Int) ≤ (n : Int) := by omega
  have n1 : (n : Int) ≤ (ys.length : Int) := by omega
  have n2 : (ys.length : Int) ≤ (cap : Int) := by omega
  have hh : Held w base (.slice (some ⟨g, o + n, none⟩) (ys.length - n) (cap - n)) (ys.drop n) := by
    refine Or.inr ⟨g, o + n, cap - n, cur, by simp, hbg, hg, by omega, by simp; omega, by omega, ?_⟩
    intro i hi
    have h3 := hB (n + i) (by simp at hi; omega)
    rw [Nat.add_assoc, h3]
    simp
  have P1 := hid (RdG.put (ys.drop n) h0 h1 (oct_drop ys n ho) _ hh)
  have row : ∀ v, (w.setCell ⟨R, 0, none⟩ v).heap[R]? = some (.cells #[v] 68 (0, 0)) := fun v => by rw [heap_setCell_same w R 0 _ 68 _ h1]; simp
  have HC1 := hid (show ∀ v, (w.setCell ⟨R, 0, none⟩ v).cell? ⟨R, 0, none⟩ = some v from fun v => by rw [cell_of_row _ R 0 _ _ _ (row v)]; rfl)
  have HF1 := hid (show ∀ v, (w.setCell ⟨R, 0, none⟩ v).frozen? ⟨R, 0, none⟩ = false from fun v => frozen_of_row _ R 0 _ _ (row v))
  have HB1 := hid hb0
  have HB2 := hid (show ∀ v u, Below base w ((w.setCell ⟨R, 0, none⟩ v).setCell ⟨R, 0, none⟩ u) from fun v u => (hb0 v).setCell h0 _)
  have P2 := hid (show ∀ v, ys.drop n = [] → RdG base ((w.setCell ⟨R, 0, none⟩ v).setCell ⟨R, 0, none⟩ (.slice none 0 0)) R (ys.drop n) (.slice none 0 0) from fun v hnil => RdG.put (ys.drop n) h0 (row v) (fun x hx => by rw [hnil] at hx; simp at hx) (.slice none 0 0) (Or.inl ⟨hnil, rfl⟩))
  have HO1 := hid (show ∀ v b, ¬ b = R → (w.setCell ⟨R, 0, none⟩ v).heap[b]? = w.heap[b]? from fun v b hb => heap_setCell_other _ _ _ _ hb)
  have HO2 := hid (show ∀ v u b, ¬ b = R → ((w.setCell ⟨R, 0, none⟩ v).setCell ⟨R, 0, none⟩ u).heap[b]? = w.heap[b]? from fun v u b hb => (heap_setCell_other _ _ _ _ hb).trans (heap_setCell_other _ _ _ _ hb))
  clear hh hb0 h1 hg hB ho h0 hbg row
  by_cases he : n = ys.length
  · have e1 : (((ys.length - n : Nat) : Int) == 0) = true := by simp; omega
    have HNIL := hid (show ys.drop n = [] from List.drop_eq_nil_of_le (by omega))
    by_cases hcp : n = cap
    · have z1 : cap - n = 0 := by omega
      have z2 : ys.length - n = 0 := by omega
      have hc1 := HC1.out (.slice (some ⟨g, o, none⟩) 0 0)
      have hf1 := HF1.out (.slice (some ⟨g, o, none⟩) 0 0)
      clear e1
      go_enter Tryd.func33, Tryd.ntmps33
      go_wp2
      all_goals go_end0
      all_goals exact ⟨rfl, ⟨_, P2.out _ HNIL.out, Or.inr rfl⟩, HB2.out _ _, by simp, HO2.out _ _⟩
    · have z1 : ¬ (cap - n = 0) := by omega
      have z3 : (n : Int) < (cap : Int) := by omega
      have hc1 := HC1.out (.slice (some ⟨g, o + n, none⟩) (ys.length - n) (cap - n))
      have hf1 := HF1.out (.slice (some ⟨g, o + n, none⟩) (ys.length - n) (cap - n))
      go_enter Tryd.func33, Tryd.ntmps33
      go_wp2
      all_goals go_end0
      all_goals exact ⟨rfl, ⟨_, P2.out _ HNIL.out, Or.inr rfl⟩, HB2.out _ _, by simp, HO2.out _ _⟩
  · have e1 : (((ys.length - n : Nat) : Int) == 0) = false := by simp; omega
    have z1 : ¬ (cap - n = 0) := by omega
    have z3 : (n : Int) < (cap : Int) := by omega
    have hc1 := HC1.out (.slice (some ⟨g, o + n, none⟩) (ys.length - n) (cap - n))
    clear he
    go_enter Tryd.func33, Tryd.ntmps33
    go_wp2
    all_goals go_end0
    all_goals exact ⟨rfl, ⟨_, P1.out, Or.inl rfl⟩, HB1.out _, by simp, HO1.out _⟩

set_option maxHeartbeats 1000000 in
set_option maxRecDepth 100000 in
theorem rcloseG (base : Nat) (w : World) (R : Nat) (ys : List Nat) (hv : Value) (h : RdG base w R ys hv) (hm : ys.length < 9223372036854775808) :
    Calls Tryd.prog 31 #[.pointer (some ⟨R, 0, none⟩)] w fun e w' => ((ys = [] ∧ e = .returned (.int .i64 0)) ∨ (0 < ys.length ∧ e = .returned (.int .i64 20))) ∧ (∃ hv', RdG base w' R [] hv' ∧ (hv'.ownBlock = hv.ownBlock ∨ hv'.ownBlock = none)) ∧ Below base w w' ∧ w.heap.size ≤ w'.heap.size ∧ ∀ b, ¬ b = R → w'.heap[b]? = w.heap[b]? := by
  have HRD := hid h
  obtain ⟨h0, ho, h1, h2⟩ := h
  obtain ⟨p, c, rfl⟩ := h2.form
  have hc : w.cell? ⟨R, 0, none⟩ = some (.slice p ys.length c) := by rw [cell_of_row w R 0 _ _ _ h1]; rfl
  clear h1 h2 ho
  by_cases hz : ys = []
  · subst hz
    have e1 : (((([] : List Nat).length : Nat) : Int) == 0) = true := rfl
    go_enter Tryd.func31, Tryd.ntmps31
    go_wp2
    go_ret
    exact ⟨Or.inl ⟨by trivial, rfl⟩, ⟨_, HRD.out, Or.inl rfl⟩, Below.refl _ _, Nat.le_refl _, fun _ _ => rfl⟩
  · have hp : 0 < ys.length := List.length_pos_iff.2 hz
    have e1 : (((ys.length : Nat) : Int) == 0) = false := by simp; omega
    have HP := hid hp
    clear hz
    go_enter Tryd.func31, Tryd.ntmps31
    go_wp2_with fail
    refine (rdropG base w R ys ys.length _ HRD.out (Nat.le_refl _) hp hm).mono ?_
    rintro e w1 ⟨rfl, ⟨hv', hr, hown⟩, hb, hsz, hoth⟩
    have HOWN := hid hown
    have HOTH := hid hoth
    have HSZ := hid hsz
    clear hown hoth hsz
    rw [List.drop_length] at hr
    have HR := hid hr
    have HB := hid hb
    clear hr hb
    go_wp2
    go_ret
    exact ⟨Or.inr ⟨HP.out, rfl⟩, ⟨_, HR.out, HOWN.out⟩, HB.out, HSZ.out, HOTH.out⟩

set_option maxHeartbeats 2000000 in
set_option maxRecDepth 100000 in
theorem rnextG (base : Nat) (w : World) (R : Nat) (ys : List Nat) (hv : Value) (h : RdG base w R ys hv) (hl : 64 ≤ ys.length) (hm : ys.length < 9223372036854775808) (hL : Laid w) :
    Calls Tryd.prog 30 #[.pointer (some ⟨R, 0, none⟩)] w fun e w' => (∃ V E, UnpR (ys.take 64) V E ∧ e = .returned (.tuple #[V, .int .i64 E, .bool true])) ∧ (∃ hv', RdG base w' R (ys.drop 64) hv' ∧ (hv'.ownBlock = hv.ownBlock ∨ hv'.ownBlock = none)) ∧ Below base w w' ∧ w.heap.size ≤ w'.heap.size ∧ ∀ b, b < w.heap.size → ¬ b = R → w'.heap[b]? = w.heap[b]? := by
  have hz : (w.alloc (.cells fz 31)).heap[w.heap.size]? = some (.cells fz 31 (0, 0)) := heap_alloc_new _ _
  have hb : Below w.heap.size w (w.alloc (.cells fz 31)) := (Below.refl w.heap.size w).alloc (Nat.le_refl _) _
  have HRD := hid (h.to hb)
  have HL := hid (laid_to hL hb)
  have hRb : base ≤ R := h.1
  have hRl : R < w.heap.size := by obtain ⟨_, _, h1, _⟩ := h; exact (Array.getElem?_eq_some_iff.1 h1).1
  clear h hL
  obtain ⟨W1, hW1⟩ : ∃ W, w.alloc (.cells fz 31) = W := ⟨_, rfl⟩
  rw [hW1] at hz hb HRD HL
  have hWZ : w.alloc (.cells #[.int .u8 0, .int .u64 0, .int .u64 0, .int .u64 0, .int .u64 0, .int .u64 0, .int .u64 0, .int .u64 0] 31) = W1 := hW1
  clear hW1
  have HB := hid hb
  have HZ := hid hz
  clear hb hz
  have hsz : W1.heap.size = w.heap.size + 1 := by rw [← hWZ]; simp
  obtain ⟨h0, ho, h1, h2⟩ := HRD.out
  rcases h2 with ⟨rfl, rfl⟩ | ⟨g, o, cap, cur, rfl, hbg, hg, r1, r2, r3, hB⟩
  · simp at hl
  have hc : W1.cell? ⟨R, 0, none⟩ = some (.slice (some ⟨g, o, none⟩) ys.length cap) := by rw [cell_of_row W1 R 0 _ _ _ h1]; rfl
  have n1 : ¬ (((ys.length : Nat) : Int) < 64) := by omega
  have n2 : (64 : Int) ≤ (cap : Int) := by omega
  have HB64 := hid (bs_take hB 64)
  have HO := hid ho
  have l64 : (ys.take 64).length = 64 := by simp; omega
  clear h1 hg hB ho r1 r2 r3 hbg
  go_enter Tryd.func30, Tryd.ntmps30
  go_wp2_with fail
  refine (unp_rel _ (ys.take 64) W1 (by omega) (fun x hx => HO.out x (List.mem_of_mem_take hx)) (Or.inr ⟨g, o, cap, by rw [l64], HB64.out⟩) HL.out).mono ?_
  rintro e w2 ⟨⟨V, E, rfl, hU⟩, hb⟩
  have HU := hid hU
  obtain ⟨k, a0, a1, a2, a3, a4, a5, a6, rfl⟩ := hU.form
  have hb2 := bal hb (.cells #[.int .u8 (k : Nat), .int .u64 (a0 : Nat), .int .u64 (a1 : Nat), .int .u64 (a2 : Nat), .int .u64 (a3 : Nat), .int .u64 (a4 : Nat), .int .u64 (a5 : Nat), .int .u64 (a6 : Nat)] 31)
  have HR2 := hid (HRD.out.to hb2)
  have hl2 : w.heap.size < w2.heap.size := by have := hb.size; omega
  have HZ2 := hid (show (w2.alloc (.cells #[.int .u8 (k : Nat), .int .u64 (a0 : Nat), .int .u64 (a1 : Nat), .int .u64 (a2 : Nat), .int .u64 (a3 : Nat), .int .u64 (a4 : Nat), .int .u64 (a5 : Nat), .int .u64 (a6 : Nat)] 31)).heap[w.heap.size]? = some (.cells fz 31 (0, 0)) by rw [blk_to hb2 (by omega)]; exact HZ.out)
  have HG2 := hid (show (w2.alloc (.cells #[.int .u8 (k : Nat), .int .u64 (a0 : Nat), .int .u64 (a1 : Nat), .int .u64 (a2 : Nat), .int .u64 (a3 : Nat), .int .u64 (a4 : Nat), .int .u64 (a5 : Nat), .int .u64 (a6 : Nat)] 31)).heap[w2.heap.size]? = some (.cells #[.int .u8 (k : Nat), .int .u64 (a0 : Nat), .int .u64 (a1 : Nat), .int .u64 (a2 : Nat), .int .u64 (a3 : Nat), .int .u64 (a4 : Nat), .int .u64 (a5 : Nat), .int .u64 (a6 : Nat)] 31 (0, 0)) from heap_alloc_new _ _)
  have HB2 := hid (btr HB.out hb2)
  clear hU hb hb2 HRD HB HZ HB64 HL hc
  obtain ⟨W2, hW2⟩ : ∃ W, w2.alloc (.cells #[.int .u8 (k : Nat), .int .u64 (a0 : Nat), .int .u64 (a1 : Nat), .int .u64 (a2 : Nat), .int .u64 (a3 : Nat), .int .u64 (a4 : Nat), .int .u64 (a5 : Nat), .int .u64 (a6 : Nat)] 31) = W := ⟨_, rfl⟩
  rw [hW2] at HR2 HZ2 HG2 HB2
  go_wp2_with fail
  (try rw [hW2])
  refine (rdropG base W2 R ys 64 _ HR2.out hl (by omega) hm).mono ?_
  rintro e w3 ⟨rfl, ⟨hv', hr, hown⟩, hb3, hsz3, hoth⟩
  have HOWN := hid hown
  have HOTH := hid (show w.heap.size ≤ w3.heap.size ∧ ∀ b, b < w.heap.size → ¬ b = R → w3.heap[b]? = w.heap[b]? from ⟨Nat.le_trans HB2.out.size hsz3, fun b hbl hbR => (hoth b hbR).trans (blk_to HB2.out hbl)⟩)
  clear hown hsz3
  have HR3 := hid hr
  have HZ3 := hid (show w3.heap[w.heap.size]? = some (.cells fz 31 (0, 0)) by rw [hoth _ (by omega)]; exact HZ2.out)
  have HG3 := hid (show w3.heap[w2.heap.size]? = some (.cells #[.int .u8 (k : Nat), .int .u64 (a0 : Nat), .int .u64 (a1 : Nat), .int .u64 (a2 : Nat), .int .u64 (a3 : Nat), .int .u64 (a4 : Nat), .int .u64 (a5 : Nat), .int .u64 (a6 : Nat)] 31 (0, 0)) by rw [hoth _ (by omega)]; exact HG2.out)
  have HB3 := hid (show Below base w w3 from (HB2.out.mono (by omega)).trans hb3)
  clear hr hb3 hoth hW2 HR2 HZ2 HG2 HB2
  obtain ⟨G, hG⟩ : ∃ G : Array Value, #[.int .u8 (k : Nat), .int .u64 (a0 : Nat), .int .u64 (a1 : Nat), .int .u64 (a2 : Nat), .int .u64 (a3 : Nat), .int .u64 (a4 : Nat), .int .u64 (a5 : Nat), .int .u64 (a6 : Nat)] = G := ⟨_, rfl⟩
  have HGG := hid hG
  have G31 := hid (show (Tryd.prog.info? 31).map (·.size) = some G.size by rw [← hG]; exact info31)
  have G1 := hid (show G.all (·.oneCell') = true by rw [← hG]; exact all_oneCell_toArray (rowF_one k [a0, a1, a2, a3, a4, a5, a6] 7))
  have GZ := hid (show fz.size = G.size by rw [← hG]; rfl)
  rw [hG] at HG3
  clear hG
  have HRF := hid (show RdG base (w3.setRow w.heap.size G) R (ys.drop 64) hv' from by
    obtain ⟨q0, q1, q2, q3⟩ := HR3.out
    refine ⟨q0, q1, by rw [setRow_other _ _ _ _ (by omega)]; exact q2, ?_⟩
    rcases q3 with q3 | ⟨g', o', cap', cur', e', hbg', hg', s1, s2, s3, hB'⟩
    · exact Or.inl q3
    · have hne : ¬ g' = w.heap.size := by
        intro e2
        rw [e2, HZ3.out] at hg'
        simp at hg'
      refine Or.inr ⟨g', o', cap', cur', e', hbg', by rw [setRow_other _ _ _ _ hne]; exact hg', s1, s2, s3, ?_⟩
      intro i hi
      rw [cell_setRow_other _ _ _ _ hne]
      exact hB' i hi)
  go_wp2_with (first | (refine wpList_load_row (by rfl) 31 (.tmp 5) (by rfl) w2.heap.size (by rfl) 31 G (0, 0) _ HG3.out Tryd.underlying31 rfl G31.out ?_) | (refine wpList_store_row (by rfl) 31 (.tmp 2) (.tmp 25) (by rfl) w.heap.size G (by rfl) (by rfl) 31 fz HZ3.out G31.out GZ.out G1.out ?_))
  exact bodyPost_ret (res3 Tryd.f30 2 3 4 Tryd.results30 _ _ w.heap.size G _ _ (by rfl) (by rfl) (by rfl) (setRow_heap _ _ _ _ 31 (0, 0) HZ3.out) G31.out) rfl ⟨⟨_, _, HU.out, by rw [HGG.out]; rfl⟩, ⟨_, HRF.out, HOWN.out⟩, below_setRow HB3.out (by omega) _, by have := HOTH.out.1; simpa using this, fun b hbl hbR => (setRow_other _ _ _ _ (by omega)).trans (HOTH.out.2 b hbl hbR)⟩


set_option maxHeartbeats 1000000 in
set_option maxRecDepth 100000 in
theorem rfeedG (base : Nat) (w : World) (R : Nat) (ys xs : List Nat) (ad : Addr) (c : Nat) (hv : Value) (h : RdG base w R ys hv) (hx : Oct xs) (hc : ∀ j u, (bv xs)[j]? = some u → w.cell? (ad.add j) = some u) (hn : ys.length + xs.length ≤ 140737488355328) :
    Calls Tryd.prog 29 #[.pointer (some ⟨R, 0, none⟩), .slice (some ad) xs.length c] w fun e w' => e = .returned (.tuple #[]) ∧ (∃ hv', RdG base w' R (ys ++ xs) hv' ∧ (hv'.ownBlock = hv.ownBlock ∨ ∀ g, hv'.ownBlock = some g → w.heap.size ≤ g)) ∧ Below base w w' ∧ w.heap.size ≤ w'.heap.size ∧ ∀ b, b < w.heap.size → ¬ b = R → ¬ hv.ownBlock = some b → w'.heap[b]? = w.heap[b]? := by
  obtain ⟨i0, hi, hz0, hz1, hz2⟩ := info_parts info5all
  have I0 := hid hi
  have I1 := hid hz0
  have I2 := hid hz1
  have I3 := hid hz2
  clear hi hz0 hz1 hz2
  obtain ⟨h0, ho, h1, h2⟩ := h
  have hR : R < w.heap.size := (Array.getElem?_eq_some_iff.1 h1).1
  have HC := hid hc
  have HO := hid (oct_app ho hx)
  clear hc ho hx
  have fin : ∀ (w' : World) (v' : Value), w'.heap[R]? = some (.cells #[hv] 68 (0, 0)) → Held w' base v' (ys ++ xs) → RdG base (w'.setCell ⟨R, 0, none⟩ v') R (ys ++ xs) v' := fun w' v' q1 q2 => RdG.put _ h0 q1 HO.out _ q2
  have FIN := hid fin
  have hlv : w.cell? ⟨R, 0, none⟩ = some hv := by rw [cell_of_row w R 0 _ _ _ h1]; rfl
  have H1 := hid h1
  clear fin h1
  rcases h2 with ⟨rfl, rfl⟩ | ⟨g, o, cap, cur, rfl, hbg, hg, r1, r2, r3, hB⟩
  · go_enter Tryd.func29, Tryd.ntmps29
    go_wp2_with (first
      | (at_builtin; go_loud (refine wpList_append_own _ (by rfl) (.tmp 8) (.tmp 9) 22 (by rfl) w.heap.size 5 i0 (.int .u8 0) 1 1 Tryd.underlying22 I0.out I1.out I2.out I3.out rfl (by decide) _ 0 [] (by rfl) (World.ownsRow_nil w _ 5 1) ad xs.length c (bv xs) (by rfl) (by simp [bv_len]) HC.out (bv_one _) (by simp at hn; unfold maxLen; omega) (by simp at hn; omega) (by omega) ?_; intro v1 w1 hown1 hgrow1 _; have HG := hid hgrow1; have HNEW0 := hid (own_new hown1); have HH := hid (held_owns (base := base) (zs := [] ++ xs) (owns_low (base := w.heap.size) (by simpa using hown1) (by omega)) (by simp)); obtain ⟨p1, c1, hv1⟩ : ∃ p c, v1 = .slice p xs.length c := (by obtain ⟨p, c, h⟩ := HH.out.form; exact ⟨p, c, (by rw [h]; simp)⟩); rw [hv1] at HH; clear hown1 hgrow1; subst hv1; have HNEW := HNEW0; have HR1 := hid (show w1.heap[R]? = some (.cells #[.slice none 0 0] 68 (0, 0)) from (HG.out.block R hR (by simp [Value.ownBlock])).trans H1.out); have hc1 : w1.cell? ⟨R, 0, none⟩ = some (.slice none 0 0) := (by rw [cell_of_row w1 R 0 _ _ _ HR1.out]; rfl); have hf1 : w1.frozen? ⟨R, 0, none⟩ = false := frozen_of_row w1 R 0 _ _ HR1.out)))
    go_end0
    exact ⟨rfl, ⟨_, FIN.out _ _ HR1.out HH.out, Or.inr HNEW.out⟩, ((Below.refl base w).grown HG.out (by omega) (by simp [Value.ownBlock])).setCell h0 _, by simpa using HG.out.size, fun b hbl hbR _ => (heap_setCell_other _ _ _ _ hbR).trans (HG.out.block b hbl (by simp [Value.ownBlock]))⟩
  · have HG0 := hid hg
    have HB := hid hB
    have hne : ¬ R = g := by
      intro e2
      rw [← e2, H1.out] at hg
      simp at hg
    clear hg hB
    go_enter Tryd.func29, Tryd.ntmps29
    go_wp2_with (first
      | (at_builtin; refine wpList_append_arg _ (by rfl) (.tmp 8) (.tmp 9) 22 (by rfl) 5 i0 (.int .u8 0) 1 1 Tryd.underlying22 I0.out I1.out I2.out I3.out rfl (by decide) g o ys.length cap (bv ys) (by rfl) (by simp [bv_len]) ?_ ad xs.length c (bv xs) (by rfl) (by simp [bv_len]) HC.out (bv_one _) ?_ (by unfold maxLen; omega) (by omega) ?_ ?_))
    · intro j u hj
      have hj' : j < ys.length := by
        have := (List.getElem?_eq_some_iff.1 hj).1
        simpa [bv_len] using this
      rw [bv_get _ j hj'] at hj
      rw [← hj]
      exact HB.out j hj'
    · intro hr j hj
      rw [bv_len] at hj
      refine ⟨?_, frozen_of_row w g _ _ _ HG0.out⟩
      rw [cell_of_row w g _ _ _ _ HG0.out, Array.getElem?_eq_getElem (by omega)]
      rfl
    · intro hr
      obtain ⟨cur', hcur, hsz⟩ := setCells_heap g 5 (bv xs) (o + ys.length) w cur HG0.out
      have HH := hid (show Held (w.setCells g (o + ys.length) (bv xs)) base (.slice (some ⟨g, o, none⟩) (ys.length + xs.length) cap) (ys ++ xs) from Or.inr ⟨g, o, cap, cur', by simp, hbg, hcur, by omega, by simp; omega, r3, by
        intro i hi
        by_cases hiy : i < ys.length
        · rw [World.cell?_setCells_out _ _ _ _ _ (fun _ _ => Or.inl (by show o + i < o + ys.length; omega))]
          rw [List.getElem_append_left hiy]
          exact HB.out i hiy
        · obtain ⟨k, rfl⟩ : ∃ k, i = ys.length + k := ⟨i - ys.length, by omega⟩
          have hk : k < xs.length := by simp at hi; omega
          have h3 := World.cell?_setCells_in g (bv xs) (o + ys.length) w (fun j hj => by
            rw [bv_len] at hj
            rw [cell_of_row w g _ _ _ _ HG0.out, Array.getElem?_eq_getElem (by omega)]
            rfl) k (by rw [bv_len]; exact hk)
          rw [← Nat.add_assoc, h3]
          simp [bv]⟩)
      have HR1 := hid (show (w.setCells g (o + ys.length) (bv xs)).heap[R]? = some (.cells #[.slice (some ⟨g, o, none⟩) ys.length cap] 68 (0, 0)) from (setCells_other g R hne _ _ _).trans H1.out)
      have HOT := hid (fun b (hb : ¬ b = g) => setCells_other g b hb (bv xs) (o + ys.length) w)
      have HSZ := hid (show w.heap.size ≤ (w.setCells g (o + ys.length) (bv xs)).heap.size from (below_setCells hbg (bv xs) (o + ys.length) w (Below.refl base w)).size)
      have HBE := hid (below_setCells hbg (bv xs) (o + ys.length) w (Below.refl base w))
      obtain ⟨W1, hW1⟩ : ∃ W, w.setCells g (o + ys.length) (bv xs) = W := ⟨_, rfl⟩
      rw [hW1] at HH HR1 HBE hcur HOT HSZ ⊢
      have hc1 : W1.cell? ⟨R, 0, none⟩ = some (.slice (some ⟨g, o, none⟩) ys.length cap) := by rw [cell_of_row W1 R 0 _ _ _ HR1.out]; rfl
      have hf1 : W1.frozen? ⟨R, 0, none⟩ = false := frozen_of_row W1 R 0 _ _ HR1.out
      clear hlv hcur
      go_wp2
      go_end0
      exact ⟨rfl, ⟨_, FIN.out _ _ HR1.out HH.out, Or.inl rfl⟩, HBE.out.setCell h0 _, by simpa using HSZ.out, fun b hbl hbR hbg => (heap_setCell_other _ _ _ _ hbR).trans (HOT.out b (fun e => hbg (by rw [e]; rfl)))⟩
    · intro hr v1 w1 hown1 hgrow1
      have HG := hid hgrow1
      have HNEW := hid (own_new hown1)
      have HH := hid (held_owns (w := w1) (v := v1) (n := ys.length + xs.length) (zs := ys ++ xs) (base := base) (by rw [bv_append]; exact owns_low hown1 (by omega)) (by simp))
      obtain ⟨p1, c1, hv1⟩ : ∃ p c, v1 = .slice p (ys.length + xs.length) c := by obtain ⟨p, c, h⟩ := HH.out.form; exact ⟨p, c, by rw [h]; simp⟩
      rw [hv1] at HH
      clear hown1 hgrow1
      subst hv1
      have HR1 := hid (show w1.heap[R]? = some (.cells #[.slice (some ⟨g, o, none⟩) ys.length cap] 68 (0, 0)) from (HG.out.block R hR (by simp)).trans H1.out)
      have hc1 : w1.cell? ⟨R, 0, none⟩ = some (.slice (some ⟨g, o, none⟩) ys.length cap) := by rw [cell_of_row w1 R 0 _ _ _ HR1.out]; rfl
      have hf1 : w1.frozen? ⟨R, 0, none⟩ = false := frozen_of_row w1 R 0 _ _ HR1.out
      clear hlv
      go_wp2
      go_end0
      exact ⟨rfl, ⟨_, FIN.out _ _ HR1.out HH.out, Or.inr HNEW.out⟩, ((Below.refl base w).grown HG.out (by omega) (by simp)).setCell h0 _, by simpa using HG.out.size, fun b hbl hbR _ => (heap_setCell_other _ _ _ _ hbR).trans (HG.out.block b hbl (by simp))⟩


end Go.Proofs.YtlhfkflomicogaaDoor
