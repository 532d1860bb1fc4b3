/-
  A ledger is opened.
-/
import Derived.Test.YtphhllppgelceaaAcU
namespace Go.Proofs.Ytphhllppgelceaa.Ac
open Go.RowKit Go.Deep Go.Maps Go.Proofs.Ytphhllppgelceaa.MonM
set_option linter.unusedVariables false
set_option linter.unusedSimpArgs false
set_option maxHeartbeats 8000000
set_option maxRecDepth 100000
attribute [local go_sem ↓] Go.wp_at_zero Go.wp_at_succ
/-- members that came in. -/
def Uz (w : World) (q : Option Addr) (l : List Int) : Prop := ∀ i (h : i < l.length), ∃ b off, q = some ⟨b, off, none⟩ ∧ b < w.heap.size ∧ w.cell? ⟨b, off + i, none⟩ = some (.int .u32 l[i])
theorem Uz.at {w U : World} {q : Option Addr} {l : List Int} (h : Uz w q l) (hU : Below w.heap.size w U) {i : Nat} (hi : i < l.length) : ∃ b off, q = some ⟨b, off, none⟩ ∧ U.cell? ⟨b, off + i, none⟩ = some (.int .u32 l[i]) := by
  obtain ⟨b, off, e, hb, hc⟩ := h i hi
  exact ⟨b, off, e, by rw [hU.cell (p := ⟨b, off + i, none⟩) hb]; exact hc⟩
/-- Open, whatever it answers. -/
theorem nl_open_any {w W : World} {G k : Nat} {s : Ls} (h : Nl w W G k s) (m : Int) (hm : U32 m) (hk : k < maxLen) : Calls Try.prog 20 #[.pointer (some ⟨G, 0, none⟩), .int .u32 m] W fun e w' => ∃ r s', e = .returned (.int .i64 r) ∧ Nl w w' G (k + 1) s' := by
  have up : ∀ {U : World}, Nl w U G k s → Nl w U G (k + 1) s := fun {U} h => by
    obtain ⟨O, h1, h2, h3⟩ := h
    exact ⟨O, h1.mono (Nat.le_succ _), h2, h3⟩
  by_cases h0 : m = 0
  · subst h0
    exact open_zero.mono (fun e w' hh => ⟨1, s, hh.1, up (h.on hh.2)⟩)
  · cases hf : s.f (m, 1) with
    | none => exact (nl_open h m hm h0 hf hk).mono (fun e w' hh => ⟨0, _, hh.1, hh.2⟩)
    | some v =>
      obtain ⟨O, h1, h2, h3⟩ := id h
      exact (open_there h1 m hm h0 (by rw [hf]; rfl)).mono (fun e w' hh => ⟨81, s, hh.1, up (h.on hh.2)⟩)
theorem nl_open_zero {w W : World} {G k : Nat} {s : Ls} (h : Nl w W G k s) : Calls Try.prog 20 #[.pointer (some ⟨G, 0, none⟩), .int .u32 0] W fun e w' => e = .returned (.int .i64 1) ∧ Nl w w' G k s := open_zero.mono (fun e w' hh => ⟨hh.1, h.on hh.2⟩)
theorem opened_no (ma ta bb : Int) (q : Option Addr) (n c : Nat) (w : World) (h : bb = 0 ∨ bb < ma ∨ bb < ta) :
    Calls Try.prog 7 #[.agg #[.int .u32 ma, .int .u32 ta, .int .u32 bb], .slice q n c] w fun e w' => e = .returned (.pointer none) ∧ Below w.heap.size w w' := by
  obtain ⟨Wa, hWa⟩ : ∃ W, w.alloc (.cells #[.int .u32 ma, .int .u32 ta, .int .u32 bb] 24) = W := ⟨_, rfl⟩
  have HBA := hid (show Below w.heap.size w Wa from by rw [← hWa]; exact ball _ _)
  have hr : Wa.heap[w.heap.size]? = some (.cells #[.int .u32 ma, .int .u32 ta, .int .u32 bb] 24 (0, 0)) := by rw [← hWa]; exact World.alloc_heap_new _ _
  have c0 := row_cell hr 0
  have c1 := row_cell hr 1
  have c2 := row_cell hr 2
  simp only [List.getElem?_toArray, List.getElem?_cons_succ, List.getElem?_cons_zero] at c0 c1 c2
  have C := hid (fun U => new_no ma ta bb U h)
  have HWa := hid hWa
  clear hWa h hr
  go_enter Try.func7, Try.ntmps7
  go_upto_region 1 with fail
  rw [HWa.out]
  go_wp2_with (go_at_call 19; with_reducible refine (C.out _).mono ?_; rintro e w4 ⟨rfl, hb⟩; have HB4 := hid hb; clear hb)
  go_ret
  exact ⟨rfl, btr HBA.out HB4.out⟩
theorem opened_ok (ma ta bb : Int) (q : Option Addr) (c : Nat) (l : List Int) (w : World) (h0 : 0 ≤ ma) (h1 : 0 ≤ ta) (h2 : 0 < bb) (h3 : ma ≤ bb) (h4 : ta ≤ bb) (h5 : bb < 4294967296) (hu : Uz w q l) (hl : ∀ x ∈ l, U32 x) (hm : l.length ≤ 1048576) :
    Calls Try.prog 7 #[.agg #[.int .u32 ma, .int .u32 ta, .int .u32 bb], .slice q l.length c] w fun e w' => ∃ G s, e = .returned (.pointer (some ⟨G, 0, none⟩)) ∧ Nl w w' G l.length s := by
  obtain ⟨Wa, hWa⟩ : ∃ W, w.alloc (.cells #[.int .u32 ma, .int .u32 ta, .int .u32 bb] 24) = W := ⟨_, rfl⟩
  have HBA := hid (show Below w.heap.size w Wa from by rw [← hWa]; exact ball _ _)
  have hr : Wa.heap[w.heap.size]? = some (.cells #[.int .u32 ma, .int .u32 ta, .int .u32 bb] 24 (0, 0)) := by rw [← hWa]; exact World.alloc_heap_new _ _
  have c0 := row_cell hr 0
  have c1 := row_cell hr 1
  have c2 := row_cell hr 2
  simp only [List.getElem?_toArray, List.getElem?_cons_succ, List.getElem?_cons_zero] at c0 c1 c2
  have C := hid (nl_new ma ta bb Wa h0 h1 h2 h3 h4 h5)
  have HWa := hid hWa
  obtain ⟨n, hn⟩ : ∃ n, l.length = n := ⟨_, rfl⟩
  have HN := hid hn
  have HU := hid hu
  have HLX := hid hl
  rw [hn] at hm ⊢
  clear hWa hr h0 h1 h2 h3 h4 h5 hu hl hn
  go_enter Try.func7, Try.ntmps7
  go_upto_region 1 with fail
  rw [HWa.out]
  have pq : ∀ (B : Nat) (U : World), (binOp .eql 29 (.pointer (some ⟨B, 0, none⟩)) (.pointer none)).run Try.prog U = .ok (.bool false) U := fun B U => by kernel_rfl
  go_upto_region 5 with (go_at_call 19; with_reducible refine C.out.mono ?_; rintro e w1 ⟨G, rfl, hg⟩; have HG := hid hg; clear hg)
  clear c0 c1 c2 C HWa
  have HB1 := hid (show Nl w w1 G 0 (ls0 ma ta bb) from by
    obtain ⟨O, a1, a2, a3⟩ := HG.out
    exact ⟨O, a1, btr HBA.out a2, fun b hb => Nat.le_trans HBA.out.size (a3 b hb)⟩)
  go_loopw [7] (fun iv wr => ∃ i s, i ≤ n ∧ iv = .int .i64 (i : Nat) ∧ Hid (Nl w wr G i s)) (fun iv _ => n - (intOf iv).toNat)
  case atStart => exact ⟨0, _, by omega, rfl, HB1⟩
  case round =>
    obtain ⟨i, s, hin, rfl, HE⟩ := hrel
    clear HG HB1
    by_cases hlt : i < n
    · have hi : i < l.length := by rw [HN.out]; exact hlt
      obtain ⟨b, off, eq, a0⟩ := HU.out.at HE.out.below hi
      subst eq
      have CE := hid (nl_open_any HE.out l[i] (HLX.out _ (List.getElem_mem hi)) (by unfold maxLen; omega))
      obtain ⟨z, hz⟩ : ∃ z, l[i] = z := ⟨_, rfl⟩
      rw [hz] at a0 CE
      have i0 : (0 : Int) ≤ (i : Int) := by omega
      have i1 : (i : Int) < (n : Int) := by omega
      clear hz
      go_wp2_with (go_at_call 20; with_reducible refine (CE.out).mono ?_; rintro e w2 ⟨r, s', rfl, hg⟩; have HG2 := hid hg; clear hg)
      go_roundw
      case rel => exact ⟨i + 1, s', by omega, by go_num, HG2⟩
      case measure => simp [intOf]; omega
    · obtain rfl : i = n := by omega
      go_wp2
      go_ret
      exact ⟨G, s, rfl, HE.out⟩
end Go.Proofs.Ytphhllppgelceaa.Ac
