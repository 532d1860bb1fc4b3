/-
  sorted.
-/
import Derived.Test.YthidnipmkffilaaIxV
import Derived.Deep.RegionWith
namespace Go.Proofs.Ythidnipmkffilaa
open Go.RowKit Go.Deep Go.Shelf Go.Lib Go.Sort
set_option linter.unusedVariables false
set_option linter.unusedSimpArgs false
theorem sortK_kp {w : World} {blk : Nat} (hb : blk < w.heap.size) (off m : Nat) (d : Array (Int × Int)) (os : Array Obj) : Kp (fun b => b = blk) w (sortWorldK encP 3 w blk off m d os) := by
  refine ⟨rfl, rfl, rfl, ?_, ?_⟩
  · simp [sortWorldK, grow, putRowK, Sort.ahead]
  · intro b hl hn
    have hs : (putRowK encP 3 (Sort.ahead w m) blk off d).heap.size = w.heap.size := by simp [putRowK, Sort.ahead]
    simp only [sortWorldK, grow]
    rw [Array.getElem?_append_left (by rw [hs]; exact hl)]
    simp only [putRowK, putRow, mapBlock, Array.getElem?_modify, Sort.ahead]
    rw [if_neg (fun e => hn e.symm)]
theorem pvs_flat (l : List (Int × Int)) (j : Nat) (h : j < l.length * 3) : (pvs l)[j]? = some ((encP l[j / 3]!)[j % 3]!) := by
  induction l generalizing j with
  | nil => simp at h
  | cons x l ih =>
    simp only [pvs]
    rcases j with _ | _ | _ | j
    · rfl
    · rfl
    · rfl
    · have e1 : (j + 1 + 1 + 1) / 3 = j / 3 + 1 := by omega
      have e2 : (j + 1 + 1 + 1) % 3 = j % 3 := by omega
      rw [e1, e2, List.getElem?_cons_succ, List.getElem?_cons_succ, List.getElem?_cons_succ, ih j (by simp at h; omega)]
      simp
theorem OwP.holds {base : Nat} {w : World} {g c : Nat} {l : List (Int × Int)} (h : OwP base w (.slice (some ⟨g, 0, none⟩) l.length c) l) : HoldsK encP 3 w g 0 l.toArray := by
  intro j hj
  rw [size_flatK] at hj
  have hj' : j < l.length * 3 := by simpa using hj
  rw [get_flatK _ _ _ _ hj]
  refine ⟨?_, World.ownsRow.frozenAt h _⟩
  rw [Nat.zero_add, World.ownsRow.cellAt h j hj', pvs_flat l j hj']
  simp
set_option maxHeartbeats 2000000 in
set_option maxRecDepth 100000 in
theorem sorted_any {w : World} {X P n room : Nat} {T : Ix.Tab} (h : Lx w X P n room T) :
    Calls Try.prog 36 #[.pointer (some ⟨X, 0, none⟩)] w fun e w' => ∃ g c L, e = .returned (.slice (some ⟨g, 0, none⟩) (L : List (Int × Int)).length c) ∧ w.heap.size ≤ g ∧ g < w'.heap.size ∧ L.Perm (us T n) ∧ L.Pairwise (fun x y => ¬ y.1 < x.1) ∧ (∀ i (hi : i < L.length), w'.cell? ⟨g, i * 3, none⟩ = some (.bool true) ∧ w'.cell? ⟨g, i * 3 + 1, none⟩ = some (.int .u64 L[i].1) ∧ w'.cell? ⟨g, i * 3 + 2, none⟩ = some (.int .i64 L[i].2)) ∧ Below w.heap.size w w' := by
  obtain ⟨cn, hcn⟩ : ∃ cn, Ix.cnt T n = cn := ⟨_, rfl⟩
  have hle : cn ≤ 131072 := by have := h.le; have := h.two; have := h.most; omega
  have hmost := h.most
  obtain ⟨i0, hi, hz0, hz1, hz2⟩ := info_parts info71all
  obtain ⟨MC, hMC, hms⟩ : ∃ MC : Array Value, madeCells #[.bool false, .int .u64 0, .int .i64 0] (cn * 3) = MC ∧ MC.size = cn * 3 := ⟨_, rfl, by simp [madeCells]⟩
  have hmk : ∀ u : World, (Instr.makeSlice 67 (.int .i64 0) (.int .i64 (cn : Nat))).run Try.prog u = .ok (.slice (some ⟨u.heap.size, 0, none⟩) 0 cn) (u.alloc (.cells MC 71)) := fun u => by
    have := run_make (P := Try.prog) u 67 71 i0 (.agg #[.bool false, .int .u64 0, .int .i64 0]) Try.underlying67 hi hz0 .i64 .i64 0 (cn : Nat) (by omega) (by omega) (by rw [hz2]; omega) (by omega)
    rw [hz1] at this
    simpa [Value.cells, hMC] using this
  obtain ⟨hc0, hc1, hc2⟩ := h.cells
  rw [hcn] at hc1
  have HS := hid (show OwP w.heap.size (w.alloc (.cells MC 71)) (.slice (some ⟨w.heap.size, 0, none⟩) 0 cn) (us T 0) from World.ownsRow_made w MC cn (Nat.le_refl _) (by unfold maxLen; omega) hms)
  have HL := hid h
  have ltX := h.ltX
  have hne : ¬ X = w.heap.size := by omega
  have HCN := hid hcn
  clear hi hz0 hz1 hz2 hMC hms h hcn hc0
  go_enter Try.func36, Try.ntmps36
  go_wp2_with fail
  go_loopw [3, 16] (fun rv iv wr => ∃ (i g c : Nat), i ≤ n ∧ rv = .slice (some ⟨g, 0, none⟩) (us T i).length c ∧ iv = .int .i64 i ∧ Hid (OwP w.heap.size wr (.slice (some ⟨g, 0, none⟩) (us T i).length c) (us T i)) ∧ Hid (Below w.heap.size w wr)) (fun _ iv _ => n - (intOf iv).toNat)
  case atStart => exact ⟨0, w.heap.size, cn, Nat.zero_le _, rfl, rfl, HS, hid (ball _ _)⟩
  case round =>
    obtain ⟨i, g, c, hi, rfl, rfl, HO, HB⟩ := hrel
    clear HS hmk
    by_cases hin : i < n
    · have L := HL.out.kp (Kp.ofBelow (fun _ => False) HB.out) (fun h => h) (fun h => h)
      obtain ⟨c0, c1, c2⟩ := L.pl.cell hin
      have hPl := L.ltP
      have f1 : (i : Int) < (n : Int) := by omega
      have f2 : (0 : Int) ≤ (i : Int) := by omega
      have ct1 : ((i : Int)).toNat = i := by omega
      have n2 : ¬ P = wr.heap.size := by omega
      have wj : IntKind.i64.wrap ((i : Int) + 1) = ((i + 1 : Nat) : Int) := by simp [IntKind.wrap, IntKind.bits, IntKind.signed]; omega
      have HJM := hid (show i + 1 ≤ n ∧ n - (i + 1) < n - i by omega)
      have hul : (us T i).length ≤ 131072 := by rw [us_len]; have := Ix.cnt_le T i; omega
      have HUL := hid hul
      have husucc : us T (i + 1) = us T i ++ (T i).toList := rfl
      obtain ⟨j1, hj1⟩ : ∃ j1, i + 1 = j1 := ⟨_, rfl⟩
      rw [hj1] at wj HJM husucc
      cases hTi : T i with
      | none =>
        rw [hTi] at c0 c1 c2 husucc
        simp only [eU, eK, eV] at c0 c1 c2
        have HUS := hid (show us T j1 = us T i by rw [husucc]; simp)
        clear hi hin hj1 L hTi husucc hul ltX hne hc1 hc2
        go_wp2_with fail
        go_roundw
        case rel => exact ⟨j1, g, c, HJM.out.1, by rw [HUS.out], rfl, by rw [HUS.out]; exact ⟨(HO.out).1, (HO.out).2.imp id (fun ⟨g, cap, cur, e1, e2, hg, r⟩ => ⟨g, cap, cur, e1, e2, row_on hg (ball _ _), r⟩)⟩, hid (HB.out.trans ((ball _ _).mono HB.out.size))⟩
        case measure => simpa [intOf] using HJM.out.2
      | some x =>
        obtain ⟨k, v⟩ := x
        rw [hTi] at c0 c1 c2 husucc
        simp only [eU, eK, eV] at c0 c1 c2
        have HUS := hid (show us T j1 = us T i ++ [(k, v)] by rw [husucc]; simp)
        have HO1 := hid (show OwP w.heap.size (wr.alloc (.cells #[.bool true, .int .u64 k, .int .i64 v] 71)) (.slice (some ⟨g, 0, none⟩) (us T i).length c) (us T i) from ⟨(HO.out).1, (HO.out).2.imp id (fun ⟨g, cap, cur, e1, e2, hg, r⟩ => ⟨g, cap, cur, e1, e2, row_on hg (ball _ _), r⟩)⟩)
        have HB1 := hid (show Below w.heap.size w (wr.alloc (.cells #[.bool true, .int .u64 k, .int .i64 v] 71)) from HB.out.trans ((ball _ _).mono HB.out.size))
        clear hi hin hj1 L hTi husucc hul ltX hne hc1 hc2
        go_wp2_with (first | (at_builtin; refine own_p (by rfl) (.tmp 23) (.tmp 25) (by rfl) w.heap.size _ (us T i) (by rfl) (wr.alloc (.cells #[.bool true, .int .u64 k, .int .i64 v] 71)) k v HO1.out (wr.heap.size + 1) (by simp) (by rfl) (by have := HUL.out; omega) HB1.out.size ?_; intro v' w7 ho hap; obtain ⟨g', c', rfl⟩ := ho.formS; have HO7 := hid ho; have HB7 := hid (HB1.out.trans hap); clear ho hap; refine Hid.out ?_))
        refine hid ?_
        go_wp2_with fail
        go_roundw
        case rel => exact ⟨j1, g', c', HJM.out.1, by rw [HUS.out, List.length_append]; rfl, rfl, by rw [HUS.out]; exact HO7, HB7⟩
        case measure => simpa [intOf] using HJM.out.2
    · have hn : i = n := by omega
      subst hn
      have f1 : ¬ (i : Int) < (i : Int) := by omega
      obtain ⟨hg0, hgl⟩ : w.heap.size ≤ g ∧ g < wr.heap.size := by
        rcases (HO.out).2 with ⟨e, _⟩ | ⟨g', cap, cur, e, e2, hg, _⟩
        · cases e
        · cases e; exact ⟨e2, row_lt hg⟩
      have hul : (us T i).length ≤ 131072 := by rw [us_len]; have := Ix.cnt_le T i; omega
      have hS := sort_any g 0 c (us T i).toArray wr (HO.out).holds hgl (by simp; omega)
      have hH0 := hid (HO.out).holds
      simp only [List.size_toArray] at hS
      have HS9 := hid hS
      have HGG := hid (And.intro hg0 hgl)
      clear hi hin hc1 hc2 hS hg0 hgl hul
      go_wp2_with (first | (go_at_call 46; with_reducible refine (HS9.out).mono ?_; rintro e w8 ⟨rfl, d', m8, os8, hP, hSo, hw8⟩; have HP8 := hid (And.intro hP (And.intro hSo hw8)); clear hP hSo hw8; refine Hid.out ?_))
      refine hid ?_
      go_wp2_with fail
      go_ret
      obtain ⟨hP, hSo, hw8⟩ := HP8.out
      obtain ⟨hg0, hgl⟩ := HGG.out
      have hsz : d'.size = (us T i).length := by have := hP.1; simpa using this
      have hk8 : Kp (fun b => b = g) wr w8 := by rw [hw8]; exact sortK_kp hgl 0 m8 d' os8
      have hH8 : HoldsK encP 3 w8 g 0 d' := by
        rw [hw8]
        exact holdsK_grow _ _ _ _ _ _ _ (by simp [putRowK, Sort.ahead]; exact hgl) (holdsK_putRowK _ _ _ _ _ _ _ (holdsK_ahead _ _ _ _ _ _ _ hH0.out) (by simpa using hsz))
      refine ⟨g, c, d'.toList, by simp [hsz], hg0, Nat.lt_of_lt_of_le hgl hk8.size, ?_, ?_, ?_, HB.out.trans (hk8.below HB.out.size (fun b hb => by omega))⟩
      · have h7 := hP.2.2
        have h8 : (d'.extract 0 (us T i).toArray.size).toList = d'.toList := by
          rw [show (us T i).toArray.size = d'.size by simp [hsz]]; simp
        have h9 : ((us T i).toArray.extract 0 (us T i).toArray.size).toList = us T i := by simp
        simp only [List.size_toArray] at h7 h8 h9
        rw [h8, h9] at h7
        exact h7
      · rw [List.pairwise_iff_getElem]
        intro a b ha hb hab
        have h9 := hSo a b (Nat.zero_le _) hab (by simp at hb; omega)
        rw [ltK] at h9
        simp at ha hb
        simpa [getElem!_pos, ha, hb] using h9
      · intro a ha
        have ha' : a < d'.size := by simpa using ha
        have q0 := (hH8.cell ha' (c := 0) (by omega)).1
        have q1 := (hH8.cell ha' (c := 1) (by omega)).1
        have q2 := (hH8.cell ha' (c := 2) (by omega)).1
        simp only [Nat.zero_add, Nat.add_zero, getElem!_pos, ha'] at q0 q1 q2
        simp only [Array.getElem_toList]
        exact ⟨q0, q1, q2⟩
end Go.Proofs.Ythidnipmkffilaa
