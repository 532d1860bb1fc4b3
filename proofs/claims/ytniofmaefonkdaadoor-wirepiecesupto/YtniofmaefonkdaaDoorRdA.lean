/-
  Readers: what they hold; Left, drop, NewReader.
-/
import Derived.Test.YtniofmaefonkdaaDoorUnB
import Derived.ArgAppend
namespace Go.Proofs.YtniofmaefonkdaaDoor
open Go.RowKit Go.Deep Crc
set_option linter.unusedVariables false
set_option linter.unusedSimpArgs false

/-- what a reader holds. -/
def Held (w : World) (base : Nat) (hv : Value) (ys : List Nat) : Prop :=
  (ys = [] ∧ hv = .slice none 0 0) ∨ ∃ g o cap cur, hv = .slice (some ⟨g, o, none⟩) ys.length cap ∧ base ≤ g ∧ w.heap[g]? = some (.cells cur 5 (0, 0)) ∧ o + cap ≤ cur.size ∧ ys.length ≤ cap ∧ cap ≤ maxLen ∧ Bs w g o ys
def Rd (base : Nat) (w : World) (R : Nat) (ys : List Nat) : Prop := base ≤ R ∧ Oct ys ∧ ∃ hv, w.heap[R]? = some (.cells #[hv] 78 (0, 0)) ∧ Held w base hv ys
theorem Held.to {w w' : World} {base : Nat} {hv : Value} {ys : List Nat} (h : Held w base hv ys) (hb : Below w.heap.size w w') : Held w' base hv ys := by
  rcases h with h | ⟨g, o, cap, cur, e, hbg, hg, r1, r2, r3, hB⟩
  · exact Or.inl h
  · exact Or.inr ⟨g, o, cap, cur, e, hbg, (hb.block g (Array.getElem?_eq_some_iff.1 hg).1).trans hg, r1, r2, r3, bs_to hB hb⟩
theorem Rd.to {w w' : World} {base R : Nat} {ys : List Nat} (h : Rd base w R ys) (hb : Below w.heap.size w w') : Rd base w' R ys := by
  obtain ⟨h0, ho, hv, h1, h2⟩ := h
  exact ⟨h0, ho, hv, (hb.block R (Array.getElem?_eq_some_iff.1 h1).1).trans h1, h2.to hb⟩
theorem Held.form {w : World} {base : Nat} {hv : Value} {ys : List Nat} (h : Held w base hv ys) : ∃ p c, hv = .slice p ys.length c := by
  rcases h with ⟨rfl, rfl⟩ | ⟨g, o, cap, cur, e, _⟩
  · exact ⟨_, _, rfl⟩
  · exact ⟨_, _, e⟩
/-- another value in the reader's cell. -/
theorem Rd.put {w : World} {base R : Nat} {hv : Value} (ys zs : List Nat) (hR : base ≤ R) (h1 : w.heap[R]? = some (.cells #[hv] 78 (0, 0))) (ho : Oct zs) (hv' : Value) (h2 : Held w base hv' zs) : Rd base (w.setCell ⟨R, 0, none⟩ hv') R zs := by
  refine ⟨hR, ho, hv', ?_, ?_⟩
  · rw [heap_setCell_same w R 0 _ 78 _ h1]
    simp
  · rcases h2 with h | ⟨g, o, cap, cur, e, hbg, hg, r1, r2, r3, hB⟩
    · exact Or.inl h
    · have hne : ¬ g = R := by
        intro e2
        rw [e2, h1] at hg
        simp at hg
      refine Or.inr ⟨g, o, cap, cur, e, hbg, ?_, r1, r2, r3, ?_⟩
      · rw [heap_setCell_other _ _ _ _ (by show g ≠ R; exact hne)]; exact hg
      · intro i hi
        rw [World.cell?_setCell_other _ _ _ _ (fun e2 => hne (by have := congrArg Addr.block e2; exact this.symm))]
        exact hB i hi
theorem oct_drop (xs : List Nat) (n : Nat) (h : Oct xs) : Oct (xs.drop n) := fun x hx => h x (List.mem_of_mem_drop hx)

set_option maxHeartbeats 400000 in
theorem rleft_any (base : Nat) (w : World) (R : Nat) (ys : List Nat) (h : Rd base w R ys) :
    Calls Tryd.prog 21 #[.pointer (some ⟨R, 0, none⟩)] w fun e w' => e = .returned (.int .i64 (ys.length : Nat)) ∧ w' = w := by
  obtain ⟨h0, ho, hv, h1, h2⟩ := h
  obtain ⟨p, c, rfl⟩ := h2.form
  have hc : w.cell? ⟨R, 0, none⟩ = some (.slice p ys.length c) := by rw [cell_of_row w R 0 _ _ _ h1]; rfl
  clear h1 h2
  go_enter Tryd.func21, Tryd.ntmps21
  go_wp2
  go_ret
  exact ⟨rfl, rfl⟩

set_option maxHeartbeats 400000 in
theorem rnew_any (w : World) :
    Calls Tryd.prog 19 #[] w fun e w' => e = .returned (.pointer (some ⟨w.heap.size, 0, none⟩)) ∧ Rd w.heap.size w' w.heap.size [] ∧ Below w.heap.size w w' ∧ w'.heap.size = w.heap.size + 1 := by
  go_enter Tryd.func19, Tryd.ntmps19
  go_wp2
  go_ret
  exact ⟨rfl, ⟨Nat.le_refl _, fun x hx => by simp at hx, _, heap_alloc_new _ _, Or.inl ⟨rfl, rfl⟩⟩, bal (Below.refl _ _) _, by simp⟩

set_option maxHeartbeats 1000000 in
set_option maxRecDepth 100000 in
theorem rdrop_any (base : Nat) (w : World) (R : Nat) (ys : List Nat) (n : Nat) (h : Rd base w R ys) (hn : n ≤ ys.length) (hy : 0 < ys.length) (hm : ys.length < 9223372036854775808) :
    Calls Tryd.prog 33 #[.pointer (some ⟨R, 0, none⟩), .int .i64 (n : Nat)] w fun e w' => e = .returned (.tuple #[]) ∧ Rd base w' R (ys.drop n) ∧ Below base w w' ∧ ∀ b, ¬ b = R → w'.heap[b]? = w.heap[b]? := by
  obtain ⟨h0, ho, hv, h1, h2⟩ := h
  have hb0 : ∀ v, Below base w (w.setCell ⟨R, 0, none⟩ v) := fun v => (Below.refl _ _).setCell h0 _
  rcases h2 with ⟨rfl, rfl⟩ | ⟨g, o, cap, cur, rfl, hbg, hg, r1, r2, r3, hB⟩
  · simp at hy
  have hc : w.cell? ⟨R, 0, none⟩ = some (.slice (some ⟨g, o, none⟩) ys.length cap) := by rw [cell_of_row w R 0 _ _ _ h1]; rfl
  have hf : w.frozen? ⟨R, 0, none⟩ = false := frozen_of_row w R 0 _ _ h1
  have n0 : (0 : Int) ≤ (n : Int) := by omega
  have n1 : (n : Int) ≤ (ys.length : Int) := by omega
  have n2 : (ys.length : Int) ≤ (cap : Int) := by omega
  have hh : Held w base (.slice (some ⟨g, o + n, none⟩) (ys.length - n) (cap - n)) (ys.drop n) := by
    refine Or.inr ⟨g, o + n, cap - n, cur, by simp, hbg, hg, by omega, by simp; omega, by omega, ?_⟩
    intro i hi
    have h3 := hB (n + i) (by simp at hi; omega)
    rw [Nat.add_assoc, h3]
    simp
  have P1 := hid (Rd.put ys (ys.drop n) h0 h1 (oct_drop ys n ho) _ hh)
  have row : ∀ v, (w.setCell ⟨R, 0, none⟩ v).heap[R]? = some (.cells #[v] 78 (0, 0)) := fun v => by rw [heap_setCell_same w R 0 _ 78 _ h1]; simp
  have HC1 := hid (show ∀ v, (w.setCell ⟨R, 0, none⟩ v).cell? ⟨R, 0, none⟩ = some v from fun v => by rw [cell_of_row _ R 0 _ _ _ (row v)]; rfl)
  have HF1 := hid (show ∀ v, (w.setCell ⟨R, 0, none⟩ v).frozen? ⟨R, 0, none⟩ = false from fun v => frozen_of_row _ R 0 _ _ (row v))
  have HB1 := hid hb0
  have HB2 := hid (show ∀ v u, Below base w ((w.setCell ⟨R, 0, none⟩ v).setCell ⟨R, 0, none⟩ u) from fun v u => (hb0 v).setCell h0 _)
  have P2 := hid (show ∀ v, ys.drop n = [] → Rd base ((w.setCell ⟨R, 0, none⟩ v).setCell ⟨R, 0, none⟩ (.slice none 0 0)) R (ys.drop n) from fun v hnil => Rd.put ys (ys.drop n) h0 (row v) (fun x hx => by rw [hnil] at hx; simp at hx) (.slice none 0 0) (Or.inl ⟨hnil, rfl⟩))
  have HO1 := hid (show ∀ v b, ¬ b = R → (w.setCell ⟨R, 0, none⟩ v).heap[b]? = w.heap[b]? from fun v b hb => heap_setCell_other _ _ _ _ hb)
  have HO2 := hid (show ∀ v u b, ¬ b = R → ((w.setCell ⟨R, 0, none⟩ v).setCell ⟨R, 0, none⟩ u).heap[b]? = w.heap[b]? from fun v u b hb => (heap_setCell_other _ _ _ _ hb).trans (heap_setCell_other _ _ _ _ hb))
  clear hh hb0 h1 hg hB ho h0 hbg row
  by_cases he : n = ys.length
  · have e1 : (((ys.length - n : Nat) : Int) == 0) = true := by simp; omega
    have HNIL := hid (show ys.drop n = [] from List.drop_eq_nil_of_le (by omega))
    by_cases hcp : n = cap
    · have z1 : cap - n = 0 := by omega
      have z2 : ys.length - n = 0 := by omega
      have hc1 := HC1.out (.slice (some ⟨g, o, none⟩) 0 0)
      have hf1 := HF1.out (.slice (some ⟨g, o, none⟩) 0 0)
      clear e1
      go_enter Tryd.func33, Tryd.ntmps33
      go_wp2
      all_goals go_end0
      all_goals exact ⟨rfl, P2.out _ HNIL.out, HB2.out _ _, HO2.out _ _⟩
    · have z1 : ¬ (cap - n = 0) := by omega
      have z3 : (n : Int) < (cap : Int) := by omega
      have hc1 := HC1.out (.slice (some ⟨g, o + n, none⟩) (ys.length - n) (cap - n))
      have hf1 := HF1.out (.slice (some ⟨g, o + n, none⟩) (ys.length - n) (cap - n))
      go_enter Tryd.func33, Tryd.ntmps33
      go_wp2
      all_goals go_end0
      all_goals exact ⟨rfl, P2.out _ HNIL.out, HB2.out _ _, HO2.out _ _⟩
  · have e1 : (((ys.length - n : Nat) : Int) == 0) = false := by simp; omega
    have z1 : ¬ (cap - n = 0) := by omega
    have z3 : (n : Int) < (cap : Int) := by omega
    have hc1 := HC1.out (.slice (some ⟨g, o + n, none⟩) (ys.length - n) (cap - n))
    clear he
    go_enter Tryd.func33, Tryd.ntmps33
    go_wp2
    all_goals go_end0
    all_goals exact ⟨rfl, P1.out, HB1.out _, HO1.out _⟩

set_option maxHeartbeats 1000000 in
set_option maxRecDepth 100000 in
theorem rclose_any (base : Nat) (w : World) (R : Nat) (ys : List Nat) (h : Rd base w R ys) (hm : ys.length < 9223372036854775808) :
    Calls Tryd.prog 25 #[.pointer (some ⟨R, 0, none⟩)] w fun e w' => ((ys = [] ∧ e = .returned (.int .i64 0)) ∨ (0 < ys.length ∧ e = .returned (.int .i64 20))) ∧ Rd base w' R [] ∧ Below base w w' := by
  have HRD := hid h
  obtain ⟨h0, ho, hv, h1, h2⟩ := h
  obtain ⟨p, c, rfl⟩ := h2.form
  have hc : w.cell? ⟨R, 0, none⟩ = some (.slice p ys.length c) := by rw [cell_of_row w R 0 _ _ _ h1]; rfl
  clear h1 h2 ho
  by_cases hz : ys = []
  · subst hz
    have e1 : (((([] : List Nat).length : Nat) : Int) == 0) = true := rfl
    go_enter Tryd.func25, Tryd.ntmps25
    go_wp2
    go_ret
    exact ⟨Or.inl ⟨by trivial, rfl⟩, HRD.out, Below.refl _ _⟩
  · have hp : 0 < ys.length := List.length_pos_iff.2 hz
    have e1 : (((ys.length : Nat) : Int) == 0) = false := by simp; omega
    have HP := hid hp
    clear hz
    go_enter Tryd.func25, Tryd.ntmps25
    go_wp2_with fail
    refine (rdrop_any base w R ys ys.length HRD.out (Nat.le_refl _) hp hm).mono ?_
    rintro e w1 ⟨rfl, hr, hb, _⟩
    rw [List.drop_length] at hr
    have HR := hid hr
    have HB := hid hb
    clear hr hb
    go_wp2
    go_ret
    exact ⟨Or.inr ⟨HP.out, rfl⟩, HR.out, HB.out⟩

theorem res3 (fn : Func) (p u v : Tmp) (h : fn.results = #[.cell p 31, .tmp u, .tmp v]) (tmps : Array Value) (w : World) (g : Nat) (cs : Array Value) (eu ev : Value)
    (hp : tmps.getD p undef = .pointer (some ⟨g, 0, none⟩)) (hu : tmps.getD u undef = eu) (hv : tmps.getD v undef = ev) (hg : w.heap[g]? = some (.cells cs 31 (0, 0))) (hi : (Tryd.prog.info? 31).map (·.size) = some cs.size) :
    (results fn tmps).run Tryd.prog w = .ok (.tuple #[.agg cs, eu, ev]) w := by
  have hp' : tmps[p]?.getD undef = .pointer (some ⟨g, 0, none⟩) := by simpa using hp
  have hu' : tmps[u]?.getD undef = eu := by simpa using hu
  have hv' : tmps[v]?.getD undef = ev := by simpa using hv
  simp [results, h, hp', hu', hv', asAddr, run_loadVar_row w g 31 31 cs (0, 0) _ hg Tryd.underlying31 rfl hi]

set_option maxHeartbeats 1000000 in
set_option maxRecDepth 100000 in
theorem rnext_short (base : Nat) (w : World) (R : Nat) (ys : List Nat) (h : Rd base w R ys) (hm : ys.length < 64) :
    Calls Tryd.prog 24 #[.pointer (some ⟨R, 0, none⟩)] w fun e w' => e = .returned (.tuple #[.agg fz, .int .i64 0, .bool false]) ∧ Rd base w' R ys ∧ Below w.heap.size w w' := by
  have hz : (w.alloc (.cells fz 31)).heap[w.heap.size]? = some (.cells fz 31 (0, 0)) := heap_alloc_new _ _
  have hb : Below w.heap.size w ((w.alloc (.cells fz 31)).setRow w.heap.size fz) := below_setRow ((Below.refl w.heap.size w).alloc (Nat.le_refl _) _) (Nat.le_refl _) _
  have HRD := hid (h.to hb)
  have HB := hid hb
  have hb1 : Below w.heap.size w (w.alloc (.cells fz 31)) := (Below.refl w.heap.size w).alloc (Nat.le_refl _) _
  obtain ⟨h0, ho, hv, h1, h2⟩ := h
  obtain ⟨p, c, rfl⟩ := h2.form
  have hlt : R < w.heap.size := (Array.getElem?_eq_some_iff.1 h1).1
  have hc : w.cell? ⟨R, 0, none⟩ = some (.slice p ys.length c) := by rw [cell_of_row w R 0 _ _ _ h1]; rfl
  have h' : ((ys.length : Nat) : Int) < 64 := by omega
  clear h1 h2 ho hb1
  go_enter Tryd.func24, Tryd.ntmps24
  go_wp2_with (first | (refine wpList_store_row (by rfl) 31 (.tmp 2) (.tmp 13) (by rfl) w.heap.size fz (by rfl) (by rfl) 31 fz hz fz_info rfl fz_one ?_))
  exact bodyPost_ret (res3 Tryd.f24 2 3 4 Tryd.results24 _ _ w.heap.size fz _ _ (by rfl) (by rfl) (by rfl) (setRow_heap _ _ _ _ 31 (0, 0) hz) fz_info) rfl ⟨rfl, HRD.out, HB.out⟩

set_option maxHeartbeats 2000000 in
set_option maxRecDepth 100000 in
theorem rnext_long (base : Nat) (w : World) (R : Nat) (ys : List Nat) (h : Rd base w R ys) (hl : 64 ≤ ys.length) (hm : ys.length < 9223372036854775808) (hL : Laid w) :
    Calls Tryd.prog 24 #[.pointer (some ⟨R, 0, none⟩)] w fun e w' => (∃ V E, UnpR (ys.take 64) V E ∧ e = .returned (.tuple #[V, .int .i64 E, .bool true])) ∧ Rd base w' R (ys.drop 64) ∧ Below base w w' := by
  have hz : (w.alloc (.cells fz 31)).heap[w.heap.size]? = some (.cells fz 31 (0, 0)) := heap_alloc_new _ _
  have hb : Below w.heap.size w (w.alloc (.cells fz 31)) := (Below.refl w.heap.size w).alloc (Nat.le_refl _) _
  have HRD := hid (h.to hb)
  have HL := hid (laid_to hL hb)
  have hRb : base ≤ R := h.1
  have hRl : R < w.heap.size := by obtain ⟨_, _, hv, h1, _⟩ := h; exact (Array.getElem?_eq_some_iff.1 h1).1
  clear h hL
  obtain ⟨W1, hW1⟩ : ∃ W, w.alloc (.cells fz 31) = W := ⟨_, rfl⟩
  rw [hW1] at hz hb HRD HL
  have hWZ : w.alloc (.cells #[.int .u8 0, .int .u64 0, .int .u64 0, .int .u64 0, .int .u64 0, .int .u64 0, .int .u64 0, .int .u64 0] 31) = W1 := hW1
  clear hW1
  have HB := hid hb
  have HZ := hid hz
  clear hb hz
  have hsz : W1.heap.size = w.heap.size + 1 := by rw [← hWZ]; simp
  obtain ⟨h0, ho, hv, h1, h2⟩ := HRD.out
  rcases h2 with ⟨rfl, rfl⟩ | ⟨g, o, cap, cur, rfl, hbg, hg, r1, r2, r3, hB⟩
  · simp at hl
  have hc : W1.cell? ⟨R, 0, none⟩ = some (.slice (some ⟨g, o, none⟩) ys.length cap) := by rw [cell_of_row W1 R 0 _ _ _ h1]; rfl
  have n1 : ¬ (((ys.length : Nat) : Int) < 64) := by omega
  have n2 : (64 : Int) ≤ (cap : Int) := by omega
  have HB64 := hid (bs_take hB 64)
  have HO := hid ho
  have l64 : (ys.take 64).length = 64 := by simp; omega
  clear h1 hg hB ho r1 r2 r3 hbg
  go_enter Tryd.func24, Tryd.ntmps24
  go_wp2_with fail
  refine (unp_rel _ (ys.take 64) W1 (by omega) (fun x hx => HO.out x (List.mem_of_mem_take hx)) (Or.inr ⟨g, o, cap, by rw [l64], HB64.out⟩) HL.out).mono ?_
  rintro e w2 ⟨⟨V, E, rfl, hU⟩, hb⟩
  have HU := hid hU
  obtain ⟨k, a0, a1, a2, a3, a4, a5, a6, rfl⟩ := hU.form
  have hb2 := bal hb (.cells #[.int .u8 (k : Nat), .int .u64 (a0 : Nat), .int .u64 (a1 : Nat), .int .u64 (a2 : Nat), .int .u64 (a3 : Nat), .int .u64 (a4 : Nat), .int .u64 (a5 : Nat), .int .u64 (a6 : Nat)] 31)
  have HR2 := hid (HRD.out.to hb2)
  have hl2 : w.heap.size < w2.heap.size := by have := hb.size; omega
  have HZ2 := hid (show (w2.alloc (.cells #[.int .u8 (k : Nat), .int .u64 (a0 : Nat), .int .u64 (a1 : Nat), .int .u64 (a2 : Nat), .int .u64 (a3 : Nat), .int .u64 (a4 : Nat), .int .u64 (a5 : Nat), .int .u64 (a6 : Nat)] 31)).heap[w.heap.size]? = some (.cells fz 31 (0, 0)) by rw [blk_to hb2 (by omega)]; exact HZ.out)
  have HG2 := hid (show (w2.alloc (.cells #[.int .u8 (k : Nat), .int .u64 (a0 : Nat), .int .u64 (a1 : Nat), .int .u64 (a2 : Nat), .int .u64 (a3 : Nat), .int .u64 (a4 : Nat), .int .u64 (a5 : Nat), .int .u64 (a6 : Nat)] 31)).heap[w2.heap.size]? = some (.cells #[.int .u8 (k : Nat), .int .u64 (a0 : Nat), .int .u64 (a1 : Nat), .int .u64 (a2 : Nat), .int .u64 (a3 : Nat), .int .u64 (a4 : Nat), .int .u64 (a5 : Nat), .int .u64 (a6 : Nat)] 31 (0, 0)) from heap_alloc_new _ _)
  have HB2 := hid (btr HB.out hb2)
  clear hU hb hb2 HRD HB HZ HB64 HL hc
  obtain ⟨W2, hW2⟩ : ∃ W, w2.alloc (.cells #[.int .u8 (k : Nat), .int .u64 (a0 : Nat), .int .u64 (a1 : Nat), .int .u64 (a2 : Nat), .int .u64 (a3 : Nat), .int .u64 (a4 : Nat), .int .u64 (a5 : Nat), .int .u64 (a6 : Nat)] 31) = W := ⟨_, rfl⟩
  rw [hW2] at HR2 HZ2 HG2 HB2
  go_wp2_with fail
  (try rw [hW2])
  refine (rdrop_any base W2 R ys 64 HR2.out hl (by omega) hm).mono ?_
  rintro e w3 ⟨rfl, hr, hb3, hoth⟩
  have HR3 := hid hr
  have HZ3 := hid (show w3.heap[w.heap.size]? = some (.cells fz 31 (0, 0)) by rw [hoth _ (by omega)]; exact HZ2.out)
  have HG3 := hid (show w3.heap[w2.heap.size]? = some (.cells #[.int .u8 (k : Nat), .int .u64 (a0 : Nat), .int .u64 (a1 : Nat), .int .u64 (a2 : Nat), .int .u64 (a3 : Nat), .int .u64 (a4 : Nat), .int .u64 (a5 : Nat), .int .u64 (a6 : Nat)] 31 (0, 0)) by rw [hoth _ (by omega)]; exact HG2.out)
  have HB3 := hid (show Below base w w3 from (HB2.out.mono (by omega)).trans hb3)
  clear hr hb3 hoth hW2 HR2 HZ2 HG2 HB2
  obtain ⟨G, hG⟩ : ∃ G : Array Value, #[.int .u8 (k : Nat), .int .u64 (a0 : Nat), .int .u64 (a1 : Nat), .int .u64 (a2 : Nat), .int .u64 (a3 : Nat), .int .u64 (a4 : Nat), .int .u64 (a5 : Nat), .int .u64 (a6 : Nat)] = G := ⟨_, rfl⟩
  have HGG := hid hG
  have G31 := hid (show (Tryd.prog.info? 31).map (·.size) = some G.size by rw [← hG]; exact info31)
  have G1 := hid (show G.all (·.oneCell') = true by rw [← hG]; exact all_oneCell_toArray (rowF_one k [a0, a1, a2, a3, a4, a5, a6] 7))
  have GZ := hid (show fz.size = G.size by rw [← hG]; rfl)
  rw [hG] at HG3
  clear hG
  have HRF := hid (show Rd base (w3.setRow w.heap.size G) R (ys.drop 64) from by
    obtain ⟨q0, q1, qv, q2, q3⟩ := HR3.out
    refine ⟨q0, q1, qv, by rw [setRow_other _ _ _ _ (by omega)]; exact q2, ?_⟩
    rcases q3 with q3 | ⟨g', o', cap', cur', e', hbg', hg', s1, s2, s3, hB'⟩
    · exact Or.inl q3
    · have hne : ¬ g' = w.heap.size := by
        intro e2
        rw [e2, HZ3.out] at hg'
        simp at hg'
      refine Or.inr ⟨g', o', cap', cur', e', hbg', by rw [setRow_other _ _ _ _ hne]; exact hg', s1, s2, s3, ?_⟩
      intro i hi
      rw [cell_setRow_other _ _ _ _ hne]
      exact hB' i hi)
  go_wp2_with (first | (refine wpList_load_row (by rfl) 31 (.tmp 5) (by rfl) w2.heap.size (by rfl) 31 G (0, 0) _ HG3.out Tryd.underlying31 rfl G31.out ?_) | (refine wpList_store_row (by rfl) 31 (.tmp 2) (.tmp 25) (by rfl) w.heap.size G (by rfl) (by rfl) 31 fz HZ3.out G31.out GZ.out G1.out ?_))
  exact bodyPost_ret (res3 Tryd.f24 2 3 4 Tryd.results24 _ _ w.heap.size G _ _ (by rfl) (by rfl) (by rfl) (setRow_heap _ _ _ _ 31 (0, 0) HZ3.out) G31.out) rfl ⟨⟨_, _, HU.out, by rw [HGG.out]; rfl⟩, HRF.out, below_setRow HB3.out (by omega) _⟩
end Go.Proofs.YtniofmaefonkdaaDoor
