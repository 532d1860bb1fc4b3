/-
  An entry.
-/
import Derived.Test.YtphhllppgelceaaAcL
namespace Go.Proofs.Ytphhllppgelceaa.Ac
open Go.RowKit Go.Deep Go.Maps Go.Proofs.Ytphhllppgelceaa.MonM
set_option linter.unusedVariables false
set_option linter.unusedSimpArgs false
set_option maxHeartbeats 8000000
set_option maxRecDepth 100000
attribute [local go_sem ↓] Go.wp_at_zero Go.wp_at_succ
theorem Mp.obj {K V : Type} {s : Kv K V} {w : World} {M n : Nat} {f : K → Option V} (h : Mp s w M n f) : ∃ es cl, w.heap[M]? = some (.map es cl) := by
  obtain ⟨D, ⟨es, cl, h1, _⟩, _⟩ := h
  exact ⟨es, cl, h1⟩
theorem Lgx.app {w w' : World} {G : Nat} {O : Nat → Prop} {k : Nat} {s : Ls} {B P : Option Nat} {p : Option Addr} {c g cap : Nat} (h : Lgx w G O k s B P p c) (x : En)
    (hrow : w'.heap[G]? = some (.cells #[.int .u32 s.ma, .int .u32 s.ta, .int .u32 s.bb, .map B, .slice (some ⟨g, 0, none⟩) (s.es.length + 1) cap, .map P] 66 (0, 0)))
    (hown : w'.ownsRow 0 43 6 (.slice (some ⟨g, 0, none⟩) (s.es.length + 1) cap) (s.es.length + 1) (enc s.es ++ enr x)) (hK : Kp (fun j => j = G ∨ (Value.slice p s.es.length c).ownBlock = some j) w w') (hg : g < w'.heap.size) :
    Lgx w' G (fun j => O j ∨ j = g) (k + 1) { s with es := s.es ++ [x] } B P (some ⟨g, 0, none⟩) cap := by
  have hm : ∀ {M : Nat} {es : Array MapEntry} {cl : Nat}, w.heap[M]? = some (.map es cl) → ¬ (M = G ∨ (Value.slice p s.es.length c).ownBlock = some M) := fun {M es cl} e h1 => by
    rcases h1 with h1 | h1
    · have h2 := h.row
      rw [← h1, e] at h2
      cases h2
    · obtain ⟨cur, h2⟩ := own_ty h.own h1
      rw [e] at h2
      cases h2
  have hmp : ∀ {K V : Type} {t : Kv K V} {M n : Nat} {f : K → Option V}, Mp t w M n f → Mp t w' M (n + 1) f := fun {K V t M n f} H => by
    obtain ⟨es, cl, e⟩ := H.obj
    exact (H.kept hK (hm e)).mono (Nat.le_succ _)
  have el : ({ s with es := s.es ++ [x] } : Ls).es.length = s.es.length + 1 := by simp
  refine ⟨?_, .inl h.oG, fun b hb => ?_, ?_, ?_, ?_, h.both, h.amt, h.gok, fun b hb => ?_, ?_, ⟨h.tf.m0, h.tf.mb, h.tf.t0, h.tf.tb, h.tf.b0, h.tf.b1⟩⟩
  · unfold lrow
    rw [el]
    exact hrow
  · right
    injection hb with hb
    exact hb.symm
  · rw [el]
    show w'.ownsRow 0 43 6 _ _ (enc (s.es ++ [x]))
    rw [enc_snoc]
    exact hown
  · have hb := h.bal
    cases B with
    | none => exact hb
    | some b => exact ⟨.inl hb.1, hmp hb.2⟩
  · have hp := h.pos
    cases P with
    | none => exact hp
    | some q =>
      obtain ⟨a, r, H⟩ := hp
      refine ⟨a, r, .inl H.own, hmp H.mp, H.no, fun m o hm ho => ?_, H.inj, H.nb⟩
      obtain ⟨M, e, x1, x2, x3, x4⟩ := H.yes m o hm ho
      exact ⟨M, e, .inl x1, x2, hmp x3, x4⟩
  · rcases hb with hb | hb
    · exact Nat.lt_of_lt_of_le (h.lt b hb) hK.size
    · rw [hb]; exact hg
  · rw [el]
    exact Nat.succ_le_succ h.len
def ent (s : Ls) (a b : Int × Int) (v : Int) : Ls := if v = 0 then s else { s with es := s.es ++ [⟨a.1, a.2, b.1, b.2, v⟩], f := upd (upd s.f a (maddV ((s.f a).getD 0) (-v))) b (maddV ((upd s.f a (maddV ((s.f a).getD 0) (-v)) b).getD 0) v) }
theorem amt_get {s : Ls} (h : ∀ x v, s.f x = some v → Amt v) (x : Int × Int) : Amt ((s.f x).getD 0) := by
  cases e : s.f x with
  | none => exact amt0
  | some v => exact h x v e
theorem amt_upd {f : Int × Int → Option Int} (h : ∀ x v, f x = some v → Amt v) {a : Int × Int} {v : Int} (hv : Amt v) : ∀ x u, upd f a v x = some u → Amt u := fun y u hy => by
  by_cases e : y = a
  · subst e
    rw [upd_same] at hy
    cases hy
    exact hv
  · rw [upd_other _ _ e] at hy
    exact h y u hy
theorem enter_zero {w : World} {G : Nat} (fm fk tm tk : Int) : Calls Try.prog 31 #[.pointer (some ⟨G, 0, none⟩), .agg #[.int .u32 fm, .int .i64 fk], .agg #[.int .u32 tm, .int .i64 tk], mv 0] w fun e w' => e = .returned (.tuple #[]) ∧ Below w.heap.size w w' := by
  obtain ⟨Wa, hWa⟩ : ∃ W, w.alloc (.cells #[.int .u32 fm, .int .i64 fk] 36) = W := ⟨_, rfl⟩
  obtain ⟨Wb, hWb⟩ : ∃ W, Wa.alloc (.cells #[.int .u32 tm, .int .i64 tk] 36) = W := ⟨_, rfl⟩
  obtain ⟨Wc, hWc⟩ : ∃ W, Wb.alloc (.cells #[.int .u64 (hiW 0), .int .u64 (loW 0)] 40) = W := ⟨_, rfl⟩
  have CS := hid (fun U => sign_any 0 U amt0)
  have ba : Below w.heap.size w Wa := by rw [← hWa]; exact ball _ _
  have bb : Below Wa.heap.size Wa Wb := by rw [← hWb]; exact ball _ _
  have bc : Below Wb.heap.size Wb Wc := by rw [← hWc]; exact ball _ _
  have HBC := hid (btr (btr ba bb) bc)
  have HRC : Wc.heap[Wb.heap.size]? = some (.cells #[.int .u64 (hiW 0), .int .u64 (loW 0)] 40 (0, 0)) := by rw [← hWc]; exact World.alloc_heap_new _ _
  obtain ⟨R, hR⟩ : ∃ R, w.heap.size = R := ⟨_, rfl⟩
  have sa : Wa.heap.size = R + 1 := by rw [← hWa, ← hR]; exact Array.size_push _
  have sb : Wb.heap.size = R + 1 + 1 := by rw [← hWb]; exact (Array.size_push _).trans (by rw [sa])
  rw [sb] at HRC
  have c0 := row_cell HRC 0
  have c1 := row_cell HRC 1
  simp only [List.getElem?_toArray, List.getElem?_cons_succ, List.getElem?_cons_zero] at c0 c1
  have HWa := hid hWa
  have HWb := hid hWb
  have HWc := hid hWc
  have HR := hid hR
  unfold mv at CS ⊢
  rw [show sgn 0 = 0 from rfl] at CS
  clear hWa hWb hWc hR sa sb ba bb bc HRC
  go_enter Try.func31, Try.ntmps31
  go_upto_region 1 with fail
  rw [HWa.out, HWb.out, HWc.out, HR.out]
  clear HWa HWb HWc
  go_wp2_with (go_at_call 16; with_reducible refine (CS.out _).mono ?_; rintro e w4 ⟨rfl, hb⟩; have HB4 := hid hb; clear hb)
  refine bodyPost_ret (results_none rfl _ _ _) rfl ?_
  exact ⟨rfl, btr HBC.out HB4.out⟩
theorem enter_some {w : World} {G : Nat} {O : Nat → Prop} {k : Nat} {s : Ls} {b : Nat} {P : Option Nat} {p : Option Addr} {c : Nat} (h : Lgx w G O k s (some b) P p c) (fm fk tm tk v : Int) (hfm : U32 fm) (hfk : (Lit.int .i64 fk).wf = true) (htm : U32 tm) (htk : (Lit.int .i64 tk).wf = true) (hv : Amt v) (hv0 : v ≠ 0) (hk : k ≤ 1000000000000) :
    Calls Try.prog 31 #[.pointer (some ⟨G, 0, none⟩), .agg #[.int .u32 fm, .int .i64 fk], .agg #[.int .u32 tm, .int .i64 tk], mv v] w fun e w' => e = .returned (.tuple #[]) ∧ ∃ O', Lg w' G O' (k + 3) (ent s (fm, fk) (tm, tk) v) ∧ Kp O w w' ∧ Ex w O O' := by
  obtain ⟨Wa, hWa⟩ : ∃ W, w.alloc (.cells #[.int .u32 fm, .int .i64 fk] 36) = W := ⟨_, rfl⟩
  obtain ⟨Wb, hWb⟩ : ∃ W, Wa.alloc (.cells #[.int .u32 tm, .int .i64 tk] 36) = W := ⟨_, rfl⟩
  obtain ⟨Wc, hWc⟩ : ∃ W, Wb.alloc (.cells #[.int .u64 (hiW v), .int .u64 (loW v)] 40) = W := ⟨_, rfl⟩
  obtain ⟨R, hR⟩ : ∃ R, w.heap.size = R := ⟨_, rfl⟩
  have sa : Wa.heap.size = R + 1 := by rw [← hWa, ← hR]; exact Array.size_push _
  have sb : Wb.heap.size = R + 1 + 1 := by rw [← hWb]; exact (Array.size_push _).trans (by rw [sa])
  have ba : Below w.heap.size w Wa := by rw [← hWa]; exact ball _ _
  have bb : Below Wa.heap.size Wa Wb := by rw [← hWb]; exact ball _ _
  have bc : Below Wb.heap.size Wb Wc := by rw [← hWc]; exact ball _ _
  have HRA := hid (show Wc.heap[R]? = some (.cells #[.int .u32 fm, .int .i64 fk] 36 (0, 0)) from row_on (row_on (by rw [← hWa, ← hR]; exact World.alloc_heap_new _ _) bb) bc)
  have HRB := hid (show Wc.heap[R + 1]? = some (.cells #[.int .u32 tm, .int .i64 tk] 36 (0, 0)) from row_on (by rw [← hWb, ← sa]; exact World.alloc_heap_new _ _) bc)
  have HRC := hid (show Wc.heap[R + 1 + 1]? = some (.cells #[.int .u64 (hiW v), .int .u64 (loW v)] 40 (0, 0)) from by rw [← hWc, ← sb]; exact World.alloc_heap_new _ _)
  have HBC := hid (btr (btr ba bb) bc)
  have CS := hid (fun U => sign_any v U hv)
  have hs0 : (sgn v == 0) = false := by unfold sgn; simp; split <;> omega
  have HLT := hid (show ∀ j, O j → j < R from fun j hj => by rw [← hR]; exact h.lt j hj)
  have HC := hid (h.on HBC.out)
  have HV := hid hv
  have HA1 := hid (And.intro hfm hfk)
  have HA2 := hid (And.intro htm htk)
  have c0 := row_cell HRC.out 0
  have c1 := row_cell HRC.out 1
  simp only [List.getElem?_toArray, List.getElem?_cons_succ, List.getElem?_cons_zero] at c0 c1
  have HWa := hid hWa
  have HWb := hid hWb
  have HWc := hid hWc
  have HR := hid hR
  have HK := hid hk
  have hent : ent s (fm, fk) (tm, tk) v = { s with es := s.es ++ [⟨fm, fk, tm, tk, v⟩], f := upd (upd s.f (fm, fk) (maddV ((s.f (fm, fk)).getD 0) (-v))) (tm, tk) (maddV ((upd s.f (fm, fk) (maddV ((s.f (fm, fk)).getD 0) (-v)) (tm, tk)).getD 0) v) } := if_neg hv0
  rw [hent]
  obtain ⟨va, hva⟩ : ∃ x, (s.f (fm, fk)).getD 0 = x := ⟨_, rfl⟩
  have HVA := hid (show Amt va from by rw [← hva]; exact amt_get h.amt _)
  rw [hva]
  have CL := hid (show ∀ U, Calls Try.prog 45 #[mv va, mv v] U fun e w' => e = .returned (mv (maddV va (-v))) ∧ Hid (Below U.heap.size U w') from fun U => less_any va v U HVA.out HV.out)
  have HVX := hid (maddV_amt va (-v))
  obtain ⟨x1, hx1⟩ : ∃ x, maddV va (-v) = x := ⟨_, rfl⟩
  rw [hx1] at CL HVX ⊢
  obtain ⟨vb, hvb⟩ : ∃ x, (upd s.f (fm, fk) x1 (tm, tk)).getD 0 = x := ⟨_, rfl⟩
  have HVBA := hid (show Amt vb from by rw [← hvb]; exact amt_get (s := { s with f := upd s.f (fm, fk) x1 }) (amt_upd h.amt HVX.out) (tm, tk))
  rw [hvb]
  have CP := hid (show ∀ U, Calls Try.prog 47 #[mv vb, mv v] U fun e w' => e = .returned (mv (maddV vb v)) ∧ Hid (Below U.heap.size U w') from fun U => plus_any vb v U HVBA.out HV.out)
  have HVX2 := hid (maddV_amt vb v)
  obtain ⟨x2, hx2⟩ : ∃ x, maddV vb v = x := ⟨_, rfl⟩
  rw [hx2] at CP HVX2 ⊢
  have HVB := hid hvb
  have HVA2 := hid hva
  unfold mv at CS CL CP ⊢
  clear hva hx1 hvb hx2
  obtain ⟨sg, hsg⟩ : ∃ x, sgn v = x := ⟨_, rfl⟩
  rw [hsg] at CS hs0
  clear hWa hWb hWc hR sa sb ba bb bc hv hv0 hfm hfk htm htk hk h hent hsg
  go_enter Try.func31, Try.ntmps31
  go_upto_region 1 with fail
  rw [HWa.out, HWb.out, HWc.out, HR.out]
  clear HWa HWb HWc
  go_upto_region 2 with (go_at_call 16; with_reducible refine (CS.out _).mono ?_; rintro e W2 ⟨rfl, hb⟩; have HB2 := hid hb; clear hb)
  clear c0 c1 hs0 CS
  have H2 := hid (HC.out.on HB2.out)
  have QA := hid (row_on HRA.out HB2.out)
  have QB := hid (row_on HRB.out HB2.out)
  have QC := hid (row_on HRC.out HB2.out)
  have QG := hid H2.out.row
  unfold lrow at QG
  refine reg_cut (X := Nat × Nat) (fun a t => (((((((((((((a.put (some 11) (.pointer (some ⟨G, 0, none⟩))).put (some 12) (.pointer (some ⟨G, 0, none⟩))).put (some 13) (.pointer (some ⟨G, 0, none⟩))).put (some 14) (.pointer (some ⟨G, 4, none⟩))).put (some 15) (.slice p s.es.length c)).put (some 16) (.agg #[.int .u32 fm, .int .i64 fk])).put (some 17) (.agg #[.int .u32 tm, .int .i64 tk])).put (some 18) (.agg #[.int .u64 (hiW v), .int .u64 (loW v)])).put (some 19) (.agg #[.int .u32 fm, .int .i64 fk, .int .u32 tm, .int .i64 tk, .int .u64 (hiW v), .int .u64 (loW v)])).put (some 20) (.slice (some ⟨W2.heap.size, 0, none⟩) 1 1)).put (some 21) (.slice (some ⟨t.1, 0, none⟩) (s.es.length + 1) t.2)).put (some 22) (.pointer (some ⟨G, 0, none⟩))).put (some 23) (.pointer (some ⟨G, 4, none⟩)))) (fun t V => Hid (V.heap[G]? = some (.cells #[.int .u32 s.ma, .int .u32 s.ta, .int .u32 s.bb, .map (some b), .slice (some ⟨t.1, 0, none⟩) (s.es.length + 1) t.2, .map P] 66 (0, 0))) ∧ Hid (V.ownsRow 0 43 6 (.slice (some ⟨t.1, 0, none⟩) (s.es.length + 1) t.2) (s.es.length + 1) (enc s.es ++ enr ⟨fm, fk, tm, tk, v⟩)) ∧ Hid (Kp (fun j => j = G ∨ (Value.slice p s.es.length c).ownBlock = some j) W2 V) ∧ Hid (t.1 < V.heap.size) ∧ Hid ((Value.slice p s.es.length c).ownBlock = some t.1 ∨ W2.heap.size ≤ t.1)) ?_ ?_
  · obtain ⟨i0, hi0, hz0, hz1, hz2⟩ := info_parts infoE6
    have HI := hid hi0
    have HZ0 := hid hz0
    have HZ1 := hid hz1
    have HZ2 := hid hz2
    clear hi0 hz0 hz1 hz2
    have HVT := hid (show ∀ j cs t, W2.heap[j]? = some (.cells cs t (0, 0)) → t ≠ 43 → ¬ (Value.slice p s.es.length c).ownBlock = some j from fun j cs t hr ht hj => by obtain ⟨cur, h2⟩ := own_ty H2.out.own hj; exact row_ne hr h2 ht rfl)
    have HLN := hid (show s.es.length ≤ 1000000000000 from Nat.le_trans H2.out.len HK.out)
    have nA : R ≠ G := row_ne QA.out QG.out (by decide)
    have nB : R + 1 ≠ G := row_ne QB.out QG.out (by decide)
    have nC : R + 1 + 1 ≠ G := row_ne QC.out QG.out (by decide)
    have NA := hid nA
    have NB := hid nB
    have NC := hid nC
    clear nA nB nC
    obtain ⟨H, hH⟩ : ∃ H, W2.heap.size = H := ⟨_, rfl⟩
    obtain ⟨V0, hV0⟩ : ∃ U, W2.drew = U := ⟨_, rfl⟩
    have D0 := hid (show Below W2.heap.size W2 V0 from by rw [← hV0]; exact bdrew1 _)
    have hVH : V0.heap.size = H := by rw [← hV0, ← hH]; rfl
    have HVH := hid hVH
    have HHH := hid hH
    refine wp_region_held_drew (S := fun U => U.cell? ⟨R, 0, none⟩ = some (.int .u32 fm) ∧ U.cell? ⟨R, 1, none⟩ = some (.int .i64 fk) ∧ U.cell? ⟨R + 1, 0, none⟩ = some (.int .u32 tm) ∧ U.cell? ⟨R + 1, 1, none⟩ = some (.int .i64 tk) ∧ U.cell? ⟨R + 1 + 1, 0, none⟩ = some (.int .u64 (hiW v)) ∧ U.cell? ⟨R + 1 + 1, 1, none⟩ = some (.int .u64 (loW v))) (by kernel_rfl) ?_ (fun hHeld => ?_)
    · (try dsimp only); rw [hV0]; exact ⟨row_cell (row_on QA.out D0.out) 0, row_cell (row_on QA.out D0.out) 1, row_cell (row_on QB.out D0.out) 0, row_cell (row_on QB.out D0.out) 1, row_cell (row_on QC.out D0.out) 0, row_cell (row_on QC.out D0.out) 1⟩
    rw [hV0] at hHeld ⊢
    clear hV0 hVH
    rw [hH]
    clear hH
    refine' wpAnyH_take (i := 0) (oi := _) (v := _) rfl (by kernel_rfl) (by kernel_rfl) (by kernel_rfl) (fun _ _ _ h => h) (Or.inl ⟨by kernel_rfl, ?_⟩) (by assumption) ?_
    rotate_left
    · (intro w hSw; (try dsimp only at hSw); go_simp; try (with_reducible rfl))
    try simp only [List.getElem_toArray, List.getElem_cons_succ, List.getElem_cons_zero, Act.put, List.setIfInBounds_toArray, List.set_cons_zero, List.set_cons_succ]
    refine' wpAnyH_take (i := 1) (oi := _) (v := _) rfl (by kernel_rfl) (by kernel_rfl) (by kernel_rfl) (fun _ _ _ h => h) (Or.inl ⟨by kernel_rfl, ?_⟩) (by assumption) ?_
    rotate_left
    · (intro w hSw; (try dsimp only at hSw); go_simp; try (with_reducible rfl))
    try simp only [List.getElem_toArray, List.getElem_cons_succ, List.getElem_cons_zero, Act.put, List.setIfInBounds_toArray, List.set_cons_zero, List.set_cons_succ]
    refine' wpAnyH_take (i := 2) (oi := _) (v := _) rfl (by kernel_rfl) (by kernel_rfl) (by kernel_rfl) (fun _ _ _ h => h) (Or.inl ⟨by kernel_rfl, ?_⟩) (by assumption) ?_
    rotate_left
    · (intro w hSw; (try dsimp only at hSw); go_simp; try (with_reducible rfl))
    try simp only [List.getElem_toArray, List.getElem_cons_succ, List.getElem_cons_zero, Act.put, List.setIfInBounds_toArray, List.set_cons_zero, List.set_cons_succ]
    refine' wpAnyH_take (i := 3) (oi := _) (v := _) rfl (by kernel_rfl) (by kernel_rfl) (by kernel_rfl) (fun _ _ _ h => h) (Or.inl ⟨by kernel_rfl, ?_⟩) (by assumption) ?_
    rotate_left
    · (intro w hSw; (try dsimp only at hSw); go_simp; try (with_reducible rfl))
    try simp only [List.getElem_toArray, List.getElem_cons_succ, List.getElem_cons_zero, Act.put, List.setIfInBounds_toArray, List.set_cons_zero, List.set_cons_succ]
    refine' wpAnyH_take (i := 5) (oi := _) (v := _) rfl (by kernel_rfl) (by kernel_rfl) (by kernel_rfl) (fun _ _ _ h => h) (Or.inl ⟨by kernel_rfl, ?_⟩) (by assumption) ?_
    rotate_left
    · (intro w hSw; (try dsimp only at hSw); go_simp; try (with_reducible rfl))
    try simp only [List.getElem_toArray, List.getElem_cons_succ, List.getElem_cons_zero, Act.put, List.setIfInBounds_toArray, List.set_cons_zero, List.set_cons_succ]
    refine' wpAnyH_take (i := 6) (oi := _) (v := _) rfl (by kernel_rfl) (by kernel_rfl) (by kernel_rfl) (fun _ _ _ h => h) (Or.inl ⟨by kernel_rfl, ?_⟩) (by assumption) ?_
    rotate_left
    · (intro w hSw; (try dsimp only at hSw); go_simp; try (with_reducible rfl))
    try simp only [List.getElem_toArray, List.getElem_cons_succ, List.getElem_cons_zero, Act.put, List.setIfInBounds_toArray, List.set_cons_zero, List.set_cons_succ]
    refine' wpAnyH_take (i := 7) (oi := _) (v := _) rfl (by kernel_rfl) (by kernel_rfl) (by kernel_rfl) (fun _ _ _ h => h) (Or.inl ⟨by kernel_rfl, ?_⟩) (by assumption) ?_
    rotate_left
    · (intro w hSw; (try dsimp only at hSw); go_simp; try (with_reducible rfl))
    try simp only [List.getElem_toArray, List.getElem_cons_succ, List.getElem_cons_zero, Act.put, List.setIfInBounds_toArray, List.set_cons_zero, List.set_cons_succ]
    refine' wpAnyH_take (i := 8) (oi := _) (v := _) rfl (by kernel_rfl) (by kernel_rfl) (by kernel_rfl) (fun _ _ _ h => h) (Or.inl ⟨by kernel_rfl, ?_⟩) (by assumption) ?_
    rotate_left
    · (intro w hSw; (try dsimp only at hSw); go_simp; try (with_reducible rfl))
    try simp only [List.getElem_toArray, List.getElem_cons_succ, List.getElem_cons_zero, Act.put, List.setIfInBounds_toArray, List.set_cons_zero, List.set_cons_succ]
    refine wpAnyH_ready (rs := [4, 9]) (by kernel_rfl) (by simp) ?_
    refine (AllReadyH.cons (o := _) rfl (fun K hK => ?_) (AllReadyH.cons (o := _) rfl (fun K hK => ?_) AllReadyH.nil))
    · have tl := row_cell (row_on QG.out D0.out) 4
      simp only [List.getElem?_toArray, List.getElem?_cons_succ, List.getElem?_cons_zero] at tl
      go_simp
      clear tl
      refine hK.out _ _ ?_ (fun hHeld => ?_)
      · (try dsimp only); exact ⟨row_cell (row_on QA.out D0.out) 0, row_cell (row_on QA.out D0.out) 1, row_cell (row_on QB.out D0.out) 0, row_cell (row_on QB.out D0.out) 1, row_cell (row_on QC.out D0.out) 0, row_cell (row_on QC.out D0.out) 1⟩
      clear hK K
      try simp only [List.getElem_toArray, List.getElem_cons_succ, List.getElem_cons_zero, Act.put, List.setIfInBounds_toArray, List.set_cons_zero, List.set_cons_succ]
      refine wpAnyH_ready (rs := [9]) (by kernel_rfl) (by simp) ?_
      refine (AllReadyH.cons (o := _) rfl (fun K hK => ?_) AllReadyH.nil)
      go_simp
      obtain ⟨X1, hX⟩ : ∃ X, V0.alloc (.cells #[.int .u32 fm, .int .i64 fk, .int .u32 tm, .int .i64 tk, .int .u64 (hiW v), .int .u64 (loW v)] 43) = X := ⟨_, rfl⟩
      have bX : Below V0.heap.size V0 X1 := by rw [← hX]; exact ball _ _
      have DX := hid (btr D0.out bX)
      have zX : X1.heap[V0.heap.size]? = some (.cells #[.int .u32 fm, .int .i64 fk, .int .u32 tm, .int .i64 tk, .int .u64 (hiW v), .int .u64 (loW v)] 43 (0, 0)) := by rw [← hX]; exact World.alloc_heap_new _ _
      have yX : X1.heap.size = V0.heap.size + 1 := by rw [← hX]; exact Array.size_push _
      rw [HVH.out] at zX yX
      have ZX := hid zX
      have YX := hid yX
      rw [hX, HVH.out]
      clear hX bX zX yX
      refine hK.out _ _ ?_ (fun hHeld => ?_)
      · (try dsimp only); exact ⟨row_cell (row_on QA.out DX.out) 0, row_cell (row_on QA.out DX.out) 1, row_cell (row_on QB.out DX.out) 0, row_cell (row_on QB.out DX.out) 1, row_cell (row_on QC.out DX.out) 0, row_cell (row_on QC.out DX.out) 1⟩
      clear hK K
      try simp only [List.getElem_toArray, List.getElem_cons_succ, List.getElem_cons_zero, Act.put, List.setIfInBounds_toArray, List.set_cons_zero, List.set_cons_succ]
      refine wpAnyH_ready (rs := [10]) (by kernel_rfl) (by simp) ?_
      refine (AllReadyH.cons (o := _) rfl (fun K hK => ?_) AllReadyH.nil)
      refine step_append_lies _ (by rfl) (.tmp 15) (.tmp 20) 33 (by rfl) 0 43 i0 _ 6 48 Try.underlying33 HI.out HZ0.out HZ1.out HZ2.out rfl (by decide) _ s.es.length (enc s.es) (by rfl) (own_on H2.out.own DX.out) ⟨H, 0, none⟩ 1 1 (enr ⟨fm, fk, tm, tk, v⟩) (by rfl) rfl (fun j u hj => by rw [Addr.add_lit, Nat.zero_add, row_cell ZX.out]; simpa [enr] using hj) (enr_one _) (by decide) (by have := HLN.out; unfold maxLen; omega) (by have := HLN.out; omega) (Nat.zero_le _) (H + 1) YX.out ?_
      intro g cap w3 hown hgrow hat hlt
      have K3 := hid (show Kp (fun j => (Value.slice p s.es.length c).ownBlock = some j) W2 w3 from (Kp.of (fun j => (Value.slice p s.es.length c).ownBlock = some j) DX.out).trans (⟨hgrow.os, hgrow.tape, hgrow.output, hgrow.size, fun j hj hne => hgrow.block j hj (fun e => hne e.symm)⟩ : Kp (fun j => (Value.slice p s.es.length c).ownBlock = some j) X1 w3) (fun g _ e => e))
      have HOW := hid hown
      have HAT := hid hat
      have HL3 := hid hlt
      clear hown hgrow hat hlt
      have qa := hid (K3.out.row QA.out (HVT.out _ _ _ QA.out (by decide)))
      have qb := hid (K3.out.row QB.out (HVT.out _ _ _ QB.out (by decide)))
      have qc := hid (K3.out.row QC.out (HVT.out _ _ _ QC.out (by decide)))
      have qg := hid (K3.out.row QG.out (HVT.out _ _ _ QG.out (by decide)))
      refine hK.out _ _ ?_ (fun hHeld => ?_)
      · (try dsimp only); exact ⟨row_cell (qa.out) 0, row_cell (qa.out) 1, row_cell (qb.out) 0, row_cell (qb.out) 1, row_cell (qc.out) 0, row_cell (qc.out) 1⟩
      clear hK K
      try simp only [List.getElem_toArray, List.getElem_cons_succ, List.getElem_cons_zero, Act.put, List.setIfInBounds_toArray, List.set_cons_zero, List.set_cons_succ]
      refine' wpAnyH_take (i := 11) (oi := _) (v := _) rfl (by kernel_rfl) (by kernel_rfl) (by kernel_rfl) (fun _ _ _ h => h) (Or.inl ⟨by kernel_rfl, ?_⟩) (by assumption) ?_
      rotate_left
      · (intro w hSw; (try dsimp only at hSw); go_simp; try (with_reducible rfl))
      try simp only [List.getElem_toArray, List.getElem_cons_succ, List.getElem_cons_zero, Act.put, List.setIfInBounds_toArray, List.set_cons_zero, List.set_cons_succ]
      refine' wpAnyH_take (i := 12) (oi := _) (v := _) rfl (by kernel_rfl) (by kernel_rfl) (by kernel_rfl) (fun _ _ _ h => h) (Or.inl ⟨by kernel_rfl, ?_⟩) (by assumption) ?_
      rotate_left
      · (intro w hSw; (try dsimp only at hSw); go_simp; try (with_reducible rfl))
      try simp only [List.getElem_toArray, List.getElem_cons_succ, List.getElem_cons_zero, Act.put, List.setIfInBounds_toArray, List.set_cons_zero, List.set_cons_succ]
      refine wpAnyH_ready (rs := [13]) (by kernel_rfl) (by simp) ?_
      refine (AllReadyH.cons (o := _) rfl (fun K hK => ?_) AllReadyH.nil)
      have c4 := row_cell qg.out 4
      have f4 := row_frz qg.out 4
      simp only [List.getElem?_toArray, List.getElem?_cons_succ, List.getElem?_cons_zero] at c4
      go_simp
      clear c4 f4
      obtain ⟨Y, hY⟩ : ∃ Y, w3.setCell ⟨G, 4, none⟩ (.slice (some ⟨g, 0, none⟩) (s.es.length + 1) cap) = Y := ⟨_, rfl⟩
      have K4 := hid (show Kp (fun j => j = G) w3 Y from by rw [← hY]; exact Kp.set _ _ _ _)
      have gG := hid (show Y.heap[G]? = some (.cells #[.int .u32 s.ma, .int .u32 s.ta, .int .u32 s.bb, .map (some b), .slice (some ⟨g, 0, none⟩) (s.es.length + 1) cap, .map P] 66 (0, 0)) from by rw [← hY]; exact set_row _ qg.out)
      rw [hY]
      clear hY
      refine hK.out _ _ ?_ (fun hHeld => ?_)
      · (try dsimp only); exact ⟨row_cell (K4.out.row qa.out NA.out) 0, row_cell (K4.out.row qa.out NA.out) 1, row_cell (K4.out.row qb.out NB.out) 0, row_cell (K4.out.row qb.out NB.out) 1, row_cell (K4.out.row qc.out NC.out) 0, row_cell (K4.out.row qc.out NC.out) 1⟩
      clear hK K
      try simp only [List.getElem_toArray, List.getElem_cons_succ, List.getElem_cons_zero, Act.put, List.setIfInBounds_toArray, List.set_cons_zero, List.set_cons_succ]
      refine wpAnyH_done (by kernel_rfl) ?_ _
      have gne : g ≠ G := by
        intro e
        obtain ⟨cur, h2⟩ := own_ty HOW.out rfl
        rw [e] at h2
        exact row_ne h2 qg.out (by decide) rfl
      refine ⟨(g, cap), by kernel_rfl, gG, own_same HOW.out (fun j hj => ?_), (K3.out.mono (fun _ _ h => .inr h)).trans K4.out (fun _ _ h => .inl h), Nat.lt_of_lt_of_le HL3.out K4.out.size, ?_⟩
      · injection hj with hj; rw [← hj]; exact K4.out.obj g HL3.out gne
      · rcases HAT.out with h | h
        · exact .inl h
        · right; show H ≤ g; omega
    · go_simp
      obtain ⟨X2, hX⟩ : ∃ X, V0.alloc (.cells #[.int .u32 fm, .int .i64 fk, .int .u32 tm, .int .i64 tk, .int .u64 (hiW v), .int .u64 (loW v)] 43) = X := ⟨_, rfl⟩
      have bX : Below V0.heap.size V0 X2 := by rw [← hX]; exact ball _ _
      have DX := hid (btr D0.out bX)
      have zX : X2.heap[V0.heap.size]? = some (.cells #[.int .u32 fm, .int .i64 fk, .int .u32 tm, .int .i64 tk, .int .u64 (hiW v), .int .u64 (loW v)] 43 (0, 0)) := by rw [← hX]; exact World.alloc_heap_new _ _
      have yX : X2.heap.size = V0.heap.size + 1 := by rw [← hX]; exact Array.size_push _
      rw [HVH.out] at zX yX
      have ZX := hid zX
      have YX := hid yX
      rw [hX, HVH.out]
      clear hX bX zX yX
      refine hK.out _ _ ?_ (fun hHeld => ?_)
      · (try dsimp only); exact ⟨row_cell (row_on QA.out DX.out) 0, row_cell (row_on QA.out DX.out) 1, row_cell (row_on QB.out DX.out) 0, row_cell (row_on QB.out DX.out) 1, row_cell (row_on QC.out DX.out) 0, row_cell (row_on QC.out DX.out) 1⟩
      clear hK K
      try simp only [List.getElem_toArray, List.getElem_cons_succ, List.getElem_cons_zero, Act.put, List.setIfInBounds_toArray, List.set_cons_zero, List.set_cons_succ]
      refine wpAnyH_ready (rs := [4]) (by kernel_rfl) (by simp) ?_
      refine (AllReadyH.cons (o := _) rfl (fun K hK => ?_) AllReadyH.nil)
      have tl := row_cell (row_on QG.out DX.out) 4
      simp only [List.getElem?_toArray, List.getElem?_cons_succ, List.getElem?_cons_zero] at tl
      go_simp
      clear tl
      refine hK.out _ _ ?_ (fun hHeld => ?_)
      · (try dsimp only); exact ⟨row_cell (row_on QA.out DX.out) 0, row_cell (row_on QA.out DX.out) 1, row_cell (row_on QB.out DX.out) 0, row_cell (row_on QB.out DX.out) 1, row_cell (row_on QC.out DX.out) 0, row_cell (row_on QC.out DX.out) 1⟩
      clear hK K
      try simp only [List.getElem_toArray, List.getElem_cons_succ, List.getElem_cons_zero, Act.put, List.setIfInBounds_toArray, List.set_cons_zero, List.set_cons_succ]
      refine wpAnyH_ready (rs := [10]) (by kernel_rfl) (by simp) ?_
      refine (AllReadyH.cons (o := _) rfl (fun K hK => ?_) AllReadyH.nil)
      refine step_append_lies _ (by rfl) (.tmp 15) (.tmp 20) 33 (by rfl) 0 43 i0 _ 6 48 Try.underlying33 HI.out HZ0.out HZ1.out HZ2.out rfl (by decide) _ s.es.length (enc s.es) (by rfl) (own_on H2.out.own DX.out) ⟨H, 0, none⟩ 1 1 (enr ⟨fm, fk, tm, tk, v⟩) (by rfl) rfl (fun j u hj => by rw [Addr.add_lit, Nat.zero_add, row_cell ZX.out]; simpa [enr] using hj) (enr_one _) (by decide) (by have := HLN.out; unfold maxLen; omega) (by have := HLN.out; omega) (Nat.zero_le _) (H + 1) YX.out ?_
      intro g cap w3 hown hgrow hat hlt
      have K3 := hid (show Kp (fun j => (Value.slice p s.es.length c).ownBlock = some j) W2 w3 from (Kp.of (fun j => (Value.slice p s.es.length c).ownBlock = some j) DX.out).trans (⟨hgrow.os, hgrow.tape, hgrow.output, hgrow.size, fun j hj hne => hgrow.block j hj (fun e => hne e.symm)⟩ : Kp (fun j => (Value.slice p s.es.length c).ownBlock = some j) X2 w3) (fun g _ e => e))
      have HOW := hid hown
      have HAT := hid hat
      have HL3 := hid hlt
      clear hown hgrow hat hlt
      have qa := hid (K3.out.row QA.out (HVT.out _ _ _ QA.out (by decide)))
      have qb := hid (K3.out.row QB.out (HVT.out _ _ _ QB.out (by decide)))
      have qc := hid (K3.out.row QC.out (HVT.out _ _ _ QC.out (by decide)))
      have qg := hid (K3.out.row QG.out (HVT.out _ _ _ QG.out (by decide)))
      refine hK.out _ _ ?_ (fun hHeld => ?_)
      · (try dsimp only); exact ⟨row_cell (qa.out) 0, row_cell (qa.out) 1, row_cell (qb.out) 0, row_cell (qb.out) 1, row_cell (qc.out) 0, row_cell (qc.out) 1⟩
      clear hK K
      try simp only [List.getElem_toArray, List.getElem_cons_succ, List.getElem_cons_zero, Act.put, List.setIfInBounds_toArray, List.set_cons_zero, List.set_cons_succ]
      refine' wpAnyH_take (i := 11) (oi := _) (v := _) rfl (by kernel_rfl) (by kernel_rfl) (by kernel_rfl) (fun _ _ _ h => h) (Or.inl ⟨by kernel_rfl, ?_⟩) (by assumption) ?_
      rotate_left
      · (intro w hSw; (try dsimp only at hSw); go_simp; try (with_reducible rfl))
      try simp only [List.getElem_toArray, List.getElem_cons_succ, List.getElem_cons_zero, Act.put, List.setIfInBounds_toArray, List.set_cons_zero, List.set_cons_succ]
      refine' wpAnyH_take (i := 12) (oi := _) (v := _) rfl (by kernel_rfl) (by kernel_rfl) (by kernel_rfl) (fun _ _ _ h => h) (Or.inl ⟨by kernel_rfl, ?_⟩) (by assumption) ?_
      rotate_left
      · (intro w hSw; (try dsimp only at hSw); go_simp; try (with_reducible rfl))
      try simp only [List.getElem_toArray, List.getElem_cons_succ, List.getElem_cons_zero, Act.put, List.setIfInBounds_toArray, List.set_cons_zero, List.set_cons_succ]
      refine wpAnyH_ready (rs := [13]) (by kernel_rfl) (by simp) ?_
      refine (AllReadyH.cons (o := _) rfl (fun K hK => ?_) AllReadyH.nil)
      have c4 := row_cell qg.out 4
      have f4 := row_frz qg.out 4
      simp only [List.getElem?_toArray, List.getElem?_cons_succ, List.getElem?_cons_zero] at c4
      go_simp
      clear c4 f4
      obtain ⟨Y, hY⟩ : ∃ Y, w3.setCell ⟨G, 4, none⟩ (.slice (some ⟨g, 0, none⟩) (s.es.length + 1) cap) = Y := ⟨_, rfl⟩
      have K4 := hid (show Kp (fun j => j = G) w3 Y from by rw [← hY]; exact Kp.set _ _ _ _)
      have gG := hid (show Y.heap[G]? = some (.cells #[.int .u32 s.ma, .int .u32 s.ta, .int .u32 s.bb, .map (some b), .slice (some ⟨g, 0, none⟩) (s.es.length + 1) cap, .map P] 66 (0, 0)) from by rw [← hY]; exact set_row _ qg.out)
      rw [hY]
      clear hY
      refine hK.out _ _ ?_ (fun hHeld => ?_)
      · (try dsimp only); exact ⟨row_cell (K4.out.row qa.out NA.out) 0, row_cell (K4.out.row qa.out NA.out) 1, row_cell (K4.out.row qb.out NB.out) 0, row_cell (K4.out.row qb.out NB.out) 1, row_cell (K4.out.row qc.out NC.out) 0, row_cell (K4.out.row qc.out NC.out) 1⟩
      clear hK K
      try simp only [List.getElem_toArray, List.getElem_cons_succ, List.getElem_cons_zero, Act.put, List.setIfInBounds_toArray, List.set_cons_zero, List.set_cons_succ]
      refine wpAnyH_done (by kernel_rfl) ?_ _
      have gne : g ≠ G := by
        intro e
        obtain ⟨cur, h2⟩ := own_ty HOW.out rfl
        rw [e] at h2
        exact row_ne h2 qg.out (by decide) rfl
      refine ⟨(g, cap), by kernel_rfl, gG, own_same HOW.out (fun j hj => ?_), (K3.out.mono (fun _ _ h => .inr h)).trans K4.out (fun _ _ h => .inl h), Nat.lt_of_lt_of_le HL3.out K4.out.size, ?_⟩
      · injection hj with hj; rw [← hj]; exact K4.out.obj g HL3.out gne
      · rcases HAT.out with h | h
        · exact .inl h
        · right; show H ≤ g; omega
  rintro ⟨g, cap⟩ V ⟨g1, g2, g3, g4, g5⟩
  try simp only [List.getElem_toArray, List.getElem_cons_succ, List.getElem_cons_zero, Act.put, List.setIfInBounds_toArray, List.set_cons_zero, List.set_cons_succ]
  have H3 := hid (H2.out.app ⟨fm, fk, tm, tk, v⟩ g1.out g2.out g3.out g4.out)
  have HVT := hid (show ∀ j cs t, W2.heap[j]? = some (.cells cs t (0, 0)) → t ≠ 43 → t ≠ 66 → ¬ (j = G ∨ (Value.slice p s.es.length c).ownBlock = some j) from fun j cs t hr ht ht2 hj => by rcases hj with hj | hj; exact row_ne hr QG.out ht2 hj; obtain ⟨cur, h2⟩ := own_ty H2.out.own hj; exact row_ne hr h2 ht rfl)
  have q3a := hid (g3.out.row QA.out (HVT.out _ _ _ QA.out (by decide) (by decide)))
  have q3b := hid (g3.out.row QB.out (HVT.out _ _ _ QB.out (by decide) (by decide)))
  have q3c := hid (g3.out.row QC.out (HVT.out _ _ _ QC.out (by decide) (by decide)))
  have NG := hid (show ∀ (U : World) (j : Nat) (cs : Array Value) (t : TypeId), (∃ es cl, U.heap[b]? = some (.map es cl)) → U.heap[j]? = some (.cells cs t (0, 0)) → j ≠ b from fun U j cs t he hr e => by obtain ⟨es, cl, he⟩ := he; rw [e, he] at hr; cases hr)
  go_upto_region 3 with fail
  have q3g := hid H3.out.row
  unfold lrow at q3g
  have GK := hid (show k + 1 < maxLen from by have := HK.out; unfold maxLen; omega)
  have GK2 := hid (show k + 1 + 1 < maxLen from by have := HK.out; unfold maxLen; omega)
  obtain ⟨V1, hV1⟩ : ∃ U, V.drew = U := ⟨_, rfl⟩
  have BV1 := hid (show Below V.heap.size V V1 from by rw [← hV1]; exact bdrew1 _)
  have r2 := hid (row_on q3g.out BV1.out)
  have r3 := hid (row_on q3a.out BV1.out)
  have r4 := hid (row_on q3b.out BV1.out)
  have r5 := hid (row_on q3c.out BV1.out)
  refine wp_region_held_drew (S := fun U => U.cell? ⟨G, 3, none⟩ = some (.map (some b)) ∧ U.cell? ⟨R, 0, none⟩ = some (.int .u32 fm) ∧ U.cell? ⟨R, 1, none⟩ = some (.int .i64 fk) ∧ U.cell? ⟨R + 1 + 1, 0, none⟩ = some (.int .u64 (hiW v)) ∧ U.cell? ⟨R + 1 + 1, 1, none⟩ = some (.int .u64 (loW v))) (by kernel_rfl) ?_ (fun hHeld => ?_)
  · (try dsimp only); rw [hV1]; exact ⟨row_cell r2.out 3, row_cell r3.out 0, row_cell r3.out 1, row_cell r5.out 0, row_cell r5.out 1⟩
  rw [hV1] at hHeld ⊢
  clear hV1
  refine' wpAnyH_take (i := 0) (oi := _) (v := _) rfl (by kernel_rfl) (by kernel_rfl) (by kernel_rfl) (fun _ _ _ h => h) (Or.inl ⟨by kernel_rfl, ?_⟩) (by assumption) ?_
  rotate_left
  · (intro w hSw; (try dsimp only at hSw); go_simp; try (with_reducible rfl))
  try simp only [List.getElem_toArray, List.getElem_cons_succ, List.getElem_cons_zero, Act.put, List.setIfInBounds_toArray, List.set_cons_zero, List.set_cons_succ]
  refine' wpAnyH_take (i := 1) (oi := _) (v := _) rfl (by kernel_rfl) (by kernel_rfl) (by kernel_rfl) (fun _ _ _ h => h) (Or.inl ⟨by kernel_rfl, ?_⟩) (by assumption) ?_
  rotate_left
  · (intro w hSw; (try dsimp only at hSw); go_simp; try (with_reducible rfl))
  try simp only [List.getElem_toArray, List.getElem_cons_succ, List.getElem_cons_zero, Act.put, List.setIfInBounds_toArray, List.set_cons_zero, List.set_cons_succ]
  refine' wpAnyH_take (i := 2) (oi := _) (v := _) rfl (by kernel_rfl) (by kernel_rfl) (by kernel_rfl) (fun _ _ _ h => h) (Or.inl ⟨by kernel_rfl, ?_⟩) (by assumption) ?_
  rotate_left
  · (intro w hSw; (try dsimp only at hSw); go_simp; try (with_reducible rfl))
  try simp only [List.getElem_toArray, List.getElem_cons_succ, List.getElem_cons_zero, Act.put, List.setIfInBounds_toArray, List.set_cons_zero, List.set_cons_succ]
  refine' wpAnyH_take (i := 3) (oi := _) (v := _) rfl (by kernel_rfl) (by kernel_rfl) (by kernel_rfl) (fun _ _ _ h => h) (Or.inl ⟨by kernel_rfl, ?_⟩) (by assumption) ?_
  rotate_left
  · (intro w hSw; (try dsimp only at hSw); go_simp; try (with_reducible rfl))
  try simp only [List.getElem_toArray, List.getElem_cons_succ, List.getElem_cons_zero, Act.put, List.setIfInBounds_toArray, List.set_cons_zero, List.set_cons_succ]
  refine' wpAnyH_take (i := 4) (oi := _) (v := _) rfl (by kernel_rfl) (by kernel_rfl) (by kernel_rfl) (fun _ _ _ h => h) (Or.inl ⟨by kernel_rfl, ?_⟩) (by assumption) ?_
  rotate_left
  · (intro w hSw; (try dsimp only at hSw); go_simp; try (with_reducible rfl))
  try simp only [List.getElem_toArray, List.getElem_cons_succ, List.getElem_cons_zero, Act.put, List.setIfInBounds_toArray, List.set_cons_zero, List.set_cons_succ]
  refine' wpAnyH_take (i := 5) (oi := _) (v := _) rfl (by kernel_rfl) (by kernel_rfl) (by kernel_rfl) (fun _ _ _ h => h) (Or.inl ⟨by kernel_rfl, ?_⟩) (by assumption) ?_
  rotate_left
  · (intro w hSw; (try dsimp only at hSw); go_simp; try (with_reducible rfl))
  try simp only [List.getElem_toArray, List.getElem_cons_succ, List.getElem_cons_zero, Act.put, List.setIfInBounds_toArray, List.set_cons_zero, List.set_cons_succ]
  refine' wpAnyH_take (i := 6) (oi := _) (v := _) rfl (by kernel_rfl) (by kernel_rfl) (by kernel_rfl) (fun _ _ _ h => h) (Or.inl ⟨by kernel_rfl, ?_⟩) (by assumption) ?_
  rotate_left
  · (intro w hSw; (try dsimp only at hSw); go_simp; try (with_reducible rfl))
  try simp only [List.getElem_toArray, List.getElem_cons_succ, List.getElem_cons_zero, Act.put, List.setIfInBounds_toArray, List.set_cons_zero, List.set_cons_succ]
  refine' wpAnyH_take (i := 7) (oi := _) (v := _) rfl (by kernel_rfl) (by kernel_rfl) (by kernel_rfl) (fun _ _ _ h => h) (Or.inl ⟨by kernel_rfl, ?_⟩) (by assumption) ?_
  rotate_left
  · (intro w hSw; (try dsimp only at hSw); go_simp; try (with_reducible rfl))
  try simp only [List.getElem_toArray, List.getElem_cons_succ, List.getElem_cons_zero, Act.put, List.setIfInBounds_toArray, List.set_cons_zero, List.set_cons_succ]
  refine' wpAnyH_take (i := 8) (oi := _) (v := _) rfl (by kernel_rfl) (by kernel_rfl) (by kernel_rfl) (fun _ _ _ h => h) (Or.inl ⟨by kernel_rfl, ?_⟩) (by assumption) ?_
  rotate_left
  · (intro w hSw; (try dsimp only at hSw); go_simp; try (with_reducible rfl))
  try simp only [List.getElem_toArray, List.getElem_cons_succ, List.getElem_cons_zero, Act.put, List.setIfInBounds_toArray, List.set_cons_zero, List.set_cons_succ]
  refine' wpAnyH_take (i := 9) (oi := _) (v := _) rfl (by kernel_rfl) (by kernel_rfl) (by kernel_rfl) (fun _ _ _ h => h) (Or.inl ⟨by kernel_rfl, ?_⟩) (by assumption) ?_
  rotate_left
  · (intro w hSw; (try dsimp only at hSw); go_simp; try (with_reducible rfl))
  try simp only [List.getElem_toArray, List.getElem_cons_succ, List.getElem_cons_zero, Act.put, List.setIfInBounds_toArray, List.set_cons_zero, List.set_cons_succ]
  refine' wpAnyH_take (i := 11) (oi := _) (v := _) rfl (by kernel_rfl) (by kernel_rfl) (by kernel_rfl) (fun _ _ _ h => h) (Or.inl ⟨by kernel_rfl, ?_⟩) (by assumption) ?_
  rotate_left
  · (intro w hSw; (try dsimp only at hSw); go_simp; try (with_reducible rfl))
  try simp only [List.getElem_toArray, List.getElem_cons_succ, List.getElem_cons_zero, Act.put, List.setIfInBounds_toArray, List.set_cons_zero, List.set_cons_succ]
  refine wpAnyH_ready (rs := [10]) (by kernel_rfl) (by simp) ?_
  refine (AllReadyH.cons (o := _) rfl (fun K hK => ?_) AllReadyH.nil)
  have hl := (H3.out.on BV1.out).bal.get fm fk HA1.out.1 HA1.out.2
  rw [show ((({ s with es := s.es ++ [⟨fm, fk, tm, tk, v⟩] } : Ls).f (fm, fk)).getD 0) = va from HVA2.out] at hl
  unfold mv at hl
  go_simp
  refine hK.out _ _ ?_ (fun hHeld => ?_)
  · (try dsimp only); exact ⟨row_cell r2.out 3, row_cell r3.out 0, row_cell r3.out 1, row_cell r5.out 0, row_cell r5.out 1⟩
  clear hK K
  try simp only [List.getElem_toArray, List.getElem_cons_succ, List.getElem_cons_zero, Act.put, List.setIfInBounds_toArray, List.set_cons_zero, List.set_cons_succ]
  clear hl
  refine wpAnyH_ready (rs := [12]) (by kernel_rfl) (by simp) ?_
  refine (AllReadyH.cons (o := _) rfl (fun K hK => ?_) AllReadyH.nil)
  go_simp
  go_at_call 45
  with_reducible refine (CL.out V1).mono ?_
  rintro e X6 ⟨rfl, DbX6⟩
  have r7 := hid (row_on r2.out DbX6.out)
  have r8 := hid (row_on r3.out DbX6.out)
  have r9 := hid (row_on r4.out DbX6.out)
  have r10 := hid (row_on r5.out DbX6.out)
  have DX6 := hid (btr BV1.out DbX6.out)
  (try go_wp2_with fail)
  refine hK.out _ _ ?_ (fun hHeld => ?_)
  · (try dsimp only); exact ⟨row_cell r7.out 3, row_cell r8.out 0, row_cell r8.out 1, row_cell r10.out 0, row_cell r10.out 1⟩
  clear hK K
  try simp only [List.getElem_toArray, List.getElem_cons_succ, List.getElem_cons_zero, Act.put, List.setIfInBounds_toArray, List.set_cons_zero, List.set_cons_succ]
  refine wpAnyH_ready (rs := [13]) (by kernel_rfl) (by simp) ?_
  refine (AllReadyH.cons (o := _) rfl (fun K hK => ?_) AllReadyH.nil)
  have H3x := hid (H3.out.on DX6.out)
  obtain ⟨Y3, hmu, hM, hK9⟩ := H3x.out.bal.2.put okB GK.out (fm, fk) HA1.out x1
  have hmu : (Instr.mapUpdate 63 (.map (some b)) (.agg #[.int .u32 fm, .int .i64 fk]) (.agg #[.int .u64 (hiW x1), .int .u64 (loW x1)])).run Try.prog X6 = .ok () Y3 := hmu
  have HY3 := hid hM
  have KY3 := hid hK9
  have NM := hid H3x.out.bal.2.obj
  clear hM hK9
  go_simp
  have r11 := hid (KY3.out.row r7.out (fun e => NG.out _ _ _ _ NM.out r7.out e))
  have r12 := hid (KY3.out.row r8.out (fun e => NG.out _ _ _ _ NM.out r8.out e))
  have r13 := hid (KY3.out.row r9.out (fun e => NG.out _ _ _ _ NM.out r9.out e))
  have r14 := hid (KY3.out.row r10.out (fun e => NG.out _ _ _ _ NM.out r10.out e))
  refine hK.out _ _ ?_ (fun hHeld => ?_)
  · (try dsimp only); exact ⟨row_cell r11.out 3, row_cell r12.out 0, row_cell r12.out 1, row_cell r14.out 0, row_cell r14.out 1⟩
  clear hK K
  try simp only [List.getElem_toArray, List.getElem_cons_succ, List.getElem_cons_zero, Act.put, List.setIfInBounds_toArray, List.set_cons_zero, List.set_cons_succ]
  refine wpAnyH_done (by kernel_rfl) ?_ _
  clear hmu
  have H4 := hid (H3x.out.opn (fm, fk) x1 HVX.out HY3.out KY3.out)
  go_upto_region 4 with fail
  have p4g := hid H4.out.row
  unfold lrow at p4g
  have p4b := hid r13.out
  have p4c := hid r14.out
  obtain ⟨V15, hV15⟩ : ∃ U, Y3.drew = U := ⟨_, rfl⟩
  have BV15 := hid (show Below Y3.heap.size Y3 V15 from by rw [← hV15]; exact bdrew1 _)
  have r16 := hid (row_on p4g.out BV15.out)
  have r17 := hid (row_on p4b.out BV15.out)
  have r18 := hid (row_on p4c.out BV15.out)
  refine wp_region_held_drew (S := fun U => U.cell? ⟨G, 3, none⟩ = some (.map (some b)) ∧ U.cell? ⟨R + 1, 0, none⟩ = some (.int .u32 tm) ∧ U.cell? ⟨R + 1, 1, none⟩ = some (.int .i64 tk) ∧ U.cell? ⟨R + 1 + 1, 0, none⟩ = some (.int .u64 (hiW v)) ∧ U.cell? ⟨R + 1 + 1, 1, none⟩ = some (.int .u64 (loW v))) (by kernel_rfl) ?_ (fun hHeld => ?_)
  · (try dsimp only); rw [hV15]; exact ⟨row_cell r16.out 3, row_cell r17.out 0, row_cell r17.out 1, row_cell r18.out 0, row_cell r18.out 1⟩
  rw [hV15] at hHeld ⊢
  clear hV15
  refine' wpAnyH_take (i := 0) (oi := _) (v := _) rfl (by kernel_rfl) (by kernel_rfl) (by kernel_rfl) (fun _ _ _ h => h) (Or.inl ⟨by kernel_rfl, ?_⟩) (by assumption) ?_
  rotate_left
  · (intro w hSw; (try dsimp only at hSw); go_simp; try (with_reducible rfl))
  try simp only [List.getElem_toArray, List.getElem_cons_succ, List.getElem_cons_zero, Act.put, List.setIfInBounds_toArray, List.set_cons_zero, List.set_cons_succ]
  refine' wpAnyH_take (i := 1) (oi := _) (v := _) rfl (by kernel_rfl) (by kernel_rfl) (by kernel_rfl) (fun _ _ _ h => h) (Or.inl ⟨by kernel_rfl, ?_⟩) (by assumption) ?_
  rotate_left
  · (intro w hSw; (try dsimp only at hSw); go_simp; try (with_reducible rfl))
  try simp only [List.getElem_toArray, List.getElem_cons_succ, List.getElem_cons_zero, Act.put, List.setIfInBounds_toArray, List.set_cons_zero, List.set_cons_succ]
  refine' wpAnyH_take (i := 2) (oi := _) (v := _) rfl (by kernel_rfl) (by kernel_rfl) (by kernel_rfl) (fun _ _ _ h => h) (Or.inl ⟨by kernel_rfl, ?_⟩) (by assumption) ?_
  rotate_left
  · (intro w hSw; (try dsimp only at hSw); go_simp; try (with_reducible rfl))
  try simp only [List.getElem_toArray, List.getElem_cons_succ, List.getElem_cons_zero, Act.put, List.setIfInBounds_toArray, List.set_cons_zero, List.set_cons_succ]
  refine' wpAnyH_take (i := 3) (oi := _) (v := _) rfl (by kernel_rfl) (by kernel_rfl) (by kernel_rfl) (fun _ _ _ h => h) (Or.inl ⟨by kernel_rfl, ?_⟩) (by assumption) ?_
  rotate_left
  · (intro w hSw; (try dsimp only at hSw); go_simp; try (with_reducible rfl))
  try simp only [List.getElem_toArray, List.getElem_cons_succ, List.getElem_cons_zero, Act.put, List.setIfInBounds_toArray, List.set_cons_zero, List.set_cons_succ]
  refine' wpAnyH_take (i := 4) (oi := _) (v := _) rfl (by kernel_rfl) (by kernel_rfl) (by kernel_rfl) (fun _ _ _ h => h) (Or.inl ⟨by kernel_rfl, ?_⟩) (by assumption) ?_
  rotate_left
  · (intro w hSw; (try dsimp only at hSw); go_simp; try (with_reducible rfl))
  try simp only [List.getElem_toArray, List.getElem_cons_succ, List.getElem_cons_zero, Act.put, List.setIfInBounds_toArray, List.set_cons_zero, List.set_cons_succ]
  refine' wpAnyH_take (i := 5) (oi := _) (v := _) rfl (by kernel_rfl) (by kernel_rfl) (by kernel_rfl) (fun _ _ _ h => h) (Or.inl ⟨by kernel_rfl, ?_⟩) (by assumption) ?_
  rotate_left
  · (intro w hSw; (try dsimp only at hSw); go_simp; try (with_reducible rfl))
  try simp only [List.getElem_toArray, List.getElem_cons_succ, List.getElem_cons_zero, Act.put, List.setIfInBounds_toArray, List.set_cons_zero, List.set_cons_succ]
  refine' wpAnyH_take (i := 6) (oi := _) (v := _) rfl (by kernel_rfl) (by kernel_rfl) (by kernel_rfl) (fun _ _ _ h => h) (Or.inl ⟨by kernel_rfl, ?_⟩) (by assumption) ?_
  rotate_left
  · (intro w hSw; (try dsimp only at hSw); go_simp; try (with_reducible rfl))
  try simp only [List.getElem_toArray, List.getElem_cons_succ, List.getElem_cons_zero, Act.put, List.setIfInBounds_toArray, List.set_cons_zero, List.set_cons_succ]
  refine' wpAnyH_take (i := 7) (oi := _) (v := _) rfl (by kernel_rfl) (by kernel_rfl) (by kernel_rfl) (fun _ _ _ h => h) (Or.inl ⟨by kernel_rfl, ?_⟩) (by assumption) ?_
  rotate_left
  · (intro w hSw; (try dsimp only at hSw); go_simp; try (with_reducible rfl))
  try simp only [List.getElem_toArray, List.getElem_cons_succ, List.getElem_cons_zero, Act.put, List.setIfInBounds_toArray, List.set_cons_zero, List.set_cons_succ]
  refine' wpAnyH_take (i := 8) (oi := _) (v := _) rfl (by kernel_rfl) (by kernel_rfl) (by kernel_rfl) (fun _ _ _ h => h) (Or.inl ⟨by kernel_rfl, ?_⟩) (by assumption) ?_
  rotate_left
  · (intro w hSw; (try dsimp only at hSw); go_simp; try (with_reducible rfl))
  try simp only [List.getElem_toArray, List.getElem_cons_succ, List.getElem_cons_zero, Act.put, List.setIfInBounds_toArray, List.set_cons_zero, List.set_cons_succ]
  refine' wpAnyH_take (i := 9) (oi := _) (v := _) rfl (by kernel_rfl) (by kernel_rfl) (by kernel_rfl) (fun _ _ _ h => h) (Or.inl ⟨by kernel_rfl, ?_⟩) (by assumption) ?_
  rotate_left
  · (intro w hSw; (try dsimp only at hSw); go_simp; try (with_reducible rfl))
  try simp only [List.getElem_toArray, List.getElem_cons_succ, List.getElem_cons_zero, Act.put, List.setIfInBounds_toArray, List.set_cons_zero, List.set_cons_succ]
  refine' wpAnyH_take (i := 11) (oi := _) (v := _) rfl (by kernel_rfl) (by kernel_rfl) (by kernel_rfl) (fun _ _ _ h => h) (Or.inl ⟨by kernel_rfl, ?_⟩) (by assumption) ?_
  rotate_left
  · (intro w hSw; (try dsimp only at hSw); go_simp; try (with_reducible rfl))
  try simp only [List.getElem_toArray, List.getElem_cons_succ, List.getElem_cons_zero, Act.put, List.setIfInBounds_toArray, List.set_cons_zero, List.set_cons_succ]
  refine wpAnyH_ready (rs := [10]) (by kernel_rfl) (by simp) ?_
  refine (AllReadyH.cons (o := _) rfl (fun K hK => ?_) AllReadyH.nil)
  have hl : (Instr.lookup 63 (.map (some b)) (.agg #[.int .u32 tm, .int .i64 tk]) false).run Try.prog V15 = .ok (mv vb) V15 := by rw [← HVB.out]; exact (H4.out.on BV15.out).bal.get tm tk HA2.out.1 HA2.out.2
  unfold mv at hl
  go_simp
  refine hK.out _ _ ?_ (fun hHeld => ?_)
  · (try dsimp only); exact ⟨row_cell r16.out 3, row_cell r17.out 0, row_cell r17.out 1, row_cell r18.out 0, row_cell r18.out 1⟩
  clear hK K
  try simp only [List.getElem_toArray, List.getElem_cons_succ, List.getElem_cons_zero, Act.put, List.setIfInBounds_toArray, List.set_cons_zero, List.set_cons_succ]
  clear hl
  refine wpAnyH_ready (rs := [12]) (by kernel_rfl) (by simp) ?_
  refine (AllReadyH.cons (o := _) rfl (fun K hK => ?_) AllReadyH.nil)
  go_simp
  go_at_call 47
  with_reducible refine (CP.out V15).mono ?_
  rintro e X19 ⟨rfl, DbX19⟩
  have r20 := hid (row_on r16.out DbX19.out)
  have r21 := hid (row_on r17.out DbX19.out)
  have r22 := hid (row_on r18.out DbX19.out)
  have DX19 := hid (btr BV15.out DbX19.out)
  (try go_wp2_with fail)
  refine hK.out _ _ ?_ (fun hHeld => ?_)
  · (try dsimp only); exact ⟨row_cell r20.out 3, row_cell r21.out 0, row_cell r21.out 1, row_cell r22.out 0, row_cell r22.out 1⟩
  clear hK K
  try simp only [List.getElem_toArray, List.getElem_cons_succ, List.getElem_cons_zero, Act.put, List.setIfInBounds_toArray, List.set_cons_zero, List.set_cons_succ]
  refine wpAnyH_ready (rs := [13]) (by kernel_rfl) (by simp) ?_
  refine (AllReadyH.cons (o := _) rfl (fun K hK => ?_) AllReadyH.nil)
  have H4x := hid (H4.out.on DX19.out)
  obtain ⟨Y4, hmu, hM, hK9⟩ := H4x.out.bal.2.put okB GK2.out (tm, tk) HA2.out x2
  have hmu : (Instr.mapUpdate 63 (.map (some b)) (.agg #[.int .u32 tm, .int .i64 tk]) (.agg #[.int .u64 (hiW x2), .int .u64 (loW x2)])).run Try.prog X19 = .ok () Y4 := hmu
  have HY4 := hid hM
  have KY4 := hid hK9
  have NM2 := hid H4x.out.bal.2.obj
  clear hM hK9
  go_simp
  have r23 := hid (KY4.out.row r20.out (fun e => NG.out _ _ _ _ NM2.out r20.out e))
  have r24 := hid (KY4.out.row r21.out (fun e => NG.out _ _ _ _ NM2.out r21.out e))
  have r25 := hid (KY4.out.row r22.out (fun e => NG.out _ _ _ _ NM2.out r22.out e))
  refine hK.out _ _ ?_ (fun hHeld => ?_)
  · (try dsimp only); exact ⟨row_cell r23.out 3, row_cell r24.out 0, row_cell r24.out 1, row_cell r25.out 0, row_cell r25.out 1⟩
  clear hK K
  try simp only [List.getElem_toArray, List.getElem_cons_succ, List.getElem_cons_zero, Act.put, List.setIfInBounds_toArray, List.set_cons_zero, List.set_cons_succ]
  refine wpAnyH_done (by kernel_rfl) ?_ _
  clear hmu
  have H5 := hid (H4x.out.opn (tm, tk) x2 HVX2.out HY4.out KY4.out)
  go_end0
  refine ⟨rfl, fun j => O j ∨ j = g, ⟨some b, P, some ⟨g, 0, none⟩, cap, H5.out⟩, ?_, fun j hj => ?_⟩
  · have k1 : Kp O w V := ((Kp.of O (btr HBC.out HB2.out)).trans g3.out (fun j _ h => by
      rcases h with h | h
      · rw [h]; exact H2.out.oG
      · exact H2.out.oE j h))
    have k2 : Kp O w Y3 := (k1.trans (Kp.of O DX6.out) (fun _ _ h => h)).trans KY3.out (fun j _ h => by rw [h]; exact H2.out.bal.1)
    exact (k2.trans (Kp.of O DX19.out) (fun _ _ h => h)).trans KY4.out (fun j _ h => by rw [h]; exact H2.out.bal.1)
  · rcases hj with h | h
    · exact .inl h
    · rcases g5.out with h1 | h1
      · exact .inl (by rw [h]; exact H2.out.oE g h1)
      · exact .inr (by rw [h]; exact Nat.le_trans (btr HBC.out HB2.out).size h1)

end Go.Proofs.Ytphhllppgelceaa.Ac
