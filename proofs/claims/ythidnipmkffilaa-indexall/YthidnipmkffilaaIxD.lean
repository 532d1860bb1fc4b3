/-
  Get, Put.
-/
import Derived.Test.YthidnipmkffilaaIxS
namespace Go.Proofs.Ythidnipmkffilaa
open Go.RowKit Go.Deep
set_option linter.unusedVariables false
set_option linter.unusedSimpArgs false
set_option maxHeartbeats 2000000 in
set_option maxRecDepth 100000 in
theorem get_any {w : World} {X P n room : Nat} {T : Ix.Tab} (h : Lx w X P n room T) (k : Int) :
    Calls Try.prog 21 #[.pointer (some ⟨X, 0, none⟩), .int .u64 k] w fun e w' => ∃ i, e = .returned (.tuple #[.int .i64 (eV (T i)), .bool (eU (T i))]) ∧ Ix.Fd n (hm n) T k i ∧ Kp (fun _ => False) w w' := by
  have HL := hid h
  have HC := hid (find_any h k)
  have hmost := h.most
  clear h
  go_enter Try.func21, Try.ntmps21
  go_wp2_with (first | (go_at_call 33; with_reducible refine (HC.out).mono ?_; rintro e9 w9 ⟨i, rfl, hF, hK⟩; have HF := hid hF; have HK := hid hK; clear hF hK; refine Hid.out ?_))
  have L9 := HL.out.kp HK.out (fun h => h) (fun h => h)
  have hi := HF.out.lt
  obtain ⟨c0, c1, c2⟩ := L9.pl.cell hi
  have hc := L9.cells.2.2
  have f2 : (i : Int) < (n : Int) := by omega
  have f3 : (0 : Int) ≤ (i : Int) := by omega
  have ct1 : ((i : Int)).toNat = i := by omega
  cases hu : T i with
  | none =>
    simp only [eU]
    have HU := hid hu
    clear hu L9 c0 c1 c2 hc hi
    refine hid ?_
    go_wp2_with fail
    go_ret2
    exact ⟨i, by rw [HU.out]; rfl, HF.out, HK.out⟩
  | some p =>
    rw [hu] at c2
    simp only [eU, eV] at c2 ⊢
    have HU := hid hu
    clear hu L9 c0 c1 hi
    refine hid ?_
    go_wp2_with fail
    go_ret2
    exact ⟨i, by rw [HU.out]; rfl, HF.out, HK.out⟩
set_option maxHeartbeats 2000000 in
set_option maxRecDepth 100000 in
theorem put_new {w : World} {X P n room : Nat} {T : Ix.Tab} (h : Lx w X P n room T) {k : Int} (v : Int) (h0 : 0 ≤ k) (h1 : k ≤ 18446744073709551615) {i : Nat} (hF : Ix.Fd n (hm n) T k i) (hi : T i = none) (hr : Ix.cnt T n < room) :
    Calls Try.prog 20 #[.pointer (some ⟨X, 0, none⟩), .int .u64 k, .int .i64 v] w fun e w' => e = .returned (.int .i64 0) ∧ Lx w' X P n room (Ix.up T i (some (k, v))) ∧ Kp (fun b => b = X ∨ b = P) w w' := by
  have HL := hid h
  have HC := hid (find_any h k)
  have hmost := h.most
  have HF := hid hF
  have HI := hid hi
  have hlt := hF.lt
  have hk := hm_lt (n := n) (by have := h.pos; omega) k
  have HKN := hid hk
  have HR := hid hr
  clear h hF hi hr hk
  go_enter Try.func20, Try.ntmps20
  go_wp2_with (first | (go_at_call 33; with_reducible refine (HC.out).mono ?_; rintro e9 w9 ⟨i', rfl, hF', hK⟩; have hii := Ix.Fd.uniq HKN.out hF' HF.out; subst i'; have HK := hid hK; clear hF' hK; rw [HI.out]; simp only [eU]; refine Hid.out ?_))
  have L9 := HL.out.kp HK.out (fun h => h) (fun h => h)
  obtain ⟨hc0, hc1, hc2⟩ := L9.cells
  have HL9 := hid L9
  have f2 : (i : Int) < (n : Int) := by omega
  have f3 : (0 : Int) ≤ (i : Int) := by omega
  have ct1 : ((i : Int)).toNat = i := by omega
  have hr := HR.out
  have ltX := L9.ltX
  have ltP := L9.ltP
  have hXP : X ≠ P := L9.neXP
  have hPX : P ≠ X := Ne.symm hXP
  obtain ⟨c0, c1, c2⟩ := L9.pl.cell hlt
  have g0 := L9.pl.frozen (i * 3)
  have g1 := L9.pl.frozen (i * 3 + 1)
  have g2 := L9.pl.frozen (i * 3 + 2)
  have gx := L9.lc.frozen 1
  obtain ⟨c, hcc⟩ : ∃ c, Ix.cnt T n = c := ⟨_, rfl⟩
  rw [hcc] at hc1 hr
  have HCC := hid hcc
  have hroom := L9.two
  clear hcc L9
  refine hid ?_
  go_wp2_with fail
  go_quiet (fail)
  go_wp2_with fail
  go_ret
  have L3 := ((HL9.out.lc.drewN nq).set HF.out.lt (some (k, v))).count ((c : Int) + 1)
  have hcnt := Ix.cnt_put (x := (k, v)) HF.out.lt HI.out
  refine ⟨rfl, HL9.out.ofLc L3 (by rw [hcnt, HCC.out]; rfl) (by rw [hcnt]; have := HR.out; omega) ?_, ?_⟩
  · intro j k' v' hj e
    by_cases hji : j = i
    · subst hji; rw [Ix.up_same] at e; cases e; exact ⟨h0, h1⟩
    · rw [Ix.up_other _ _ hji] at e; exact HL9.out.keys j k' v' hj e
  · exact (((HK.out.mono (fun _ _ h => h.elim)).trans (Kp.drewN _ _ _)).trans (Kp.w3 (.inr rfl) i _ _ _)).trans (Kp.setCell (.inl rfl) _ _)
set_option maxHeartbeats 2000000 in
set_option maxRecDepth 100000 in
theorem put_there {w : World} {X P n room : Nat} {T : Ix.Tab} (h : Lx w X P n room T) {k : Int} (v : Int) {i : Nat} (hF : Ix.Fd n (hm n) T k i) {x : Int × Int} (hi : T i = some x) :
    Calls Try.prog 20 #[.pointer (some ⟨X, 0, none⟩), .int .u64 k, .int .i64 v] w fun e w' => e = .returned (.int .i64 81) ∧ Kp (fun _ => False) w w' := by
  have HC := hid (find_any h k)
  have HF := hid hF
  have HI := hid hi
  have hk := hm_lt (n := n) (by have := h.pos; omega) k
  have HKN := hid hk
  clear h hF hi hk
  go_enter Try.func20, Try.ntmps20
  go_wp2_with (first | (go_at_call 33; with_reducible refine (HC.out).mono ?_; rintro e9 w9 ⟨i', rfl, hF', hK⟩; have hii := Ix.Fd.uniq HKN.out hF' HF.out; subst i'; have HK := hid hK; clear hF' hK; rw [HI.out]; simp only [eU]; refine Hid.out ?_))
  refine hid ?_
  go_wp2_with fail
  go_ret
  exact ⟨rfl, HK.out⟩
set_option maxHeartbeats 2000000 in
set_option maxRecDepth 100000 in
theorem put_full {w : World} {X P n room : Nat} {T : Ix.Tab} (h : Lx w X P n room T) {k : Int} (v : Int) {i : Nat} (hF : Ix.Fd n (hm n) T k i) (hi : T i = none) (hr : Ix.cnt T n = room) :
    Calls Try.prog 20 #[.pointer (some ⟨X, 0, none⟩), .int .u64 k, .int .i64 v] w fun e w' => e = .returned (.int .i64 80) ∧ Kp (fun _ => False) w w' := by
  have HL := hid h
  have HC := hid (find_any h k)
  have HF := hid hF
  have HI := hid hi
  have hk := hm_lt (n := n) (by have := h.pos; omega) k
  have HKN := hid hk
  have HR := hid hr
  clear h hF hi hk hr
  go_enter Try.func20, Try.ntmps20
  go_wp2_with (first | (go_at_call 33; with_reducible refine (HC.out).mono ?_; rintro e9 w9 ⟨i', rfl, hF', hK⟩; have hii := Ix.Fd.uniq HKN.out hF' HF.out; subst i'; have HK := hid hK; clear hF' hK; rw [HI.out]; simp only [eU]; refine Hid.out ?_))
  have L9 := HL.out.kp HK.out (fun h => h) (fun h => h)
  obtain ⟨hc0, hc1, hc2⟩ := L9.cells
  rw [HR.out] at hc1
  clear L9 hc2
  have hrr : (room : Int) ≤ (room : Int) := Int.le_refl _
  refine hid ?_
  go_wp2_with fail
  go_quiet (fail)
  go_wp2_with fail
  go_ret
  exact ⟨rfl, HK.out.trans (Kp.drewN _ _ _)⟩
end Go.Proofs.Ythidnipmkffilaa
