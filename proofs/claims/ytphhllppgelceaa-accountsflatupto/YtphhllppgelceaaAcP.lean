/-
  A position is held.
-/
import Derived.Test.YtphhllppgelceaaAcO
namespace Go.Proofs.Ytphhllppgelceaa.Ac
open Go.RowKit Go.Deep Go.Maps Go.Proofs.Ytphhllppgelceaa.MonM
set_option linter.unusedVariables false
set_option linter.unusedSimpArgs false
set_option maxHeartbeats 8000000
set_option maxRecDepth 100000
attribute [local go_sem ↓] Go.wp_at_zero Go.wp_at_succ
def gupd (g : Int → Int → Po) (m i : Int) (x : Po) : Int → Int → Po := fun m' i' => if m' = m ∧ i' = i then x else g m' i'
def rupd (r : Int → Int → Option Po) (m : Int) (f : Int → Option Po) : Int → Int → Option Po := fun m' => if m' = m then f else r m'
theorem rupd_same (r : Int → Int → Option Po) (m : Int) (f : Int → Option Po) : rupd r m f m = f := if_pos rfl
theorem rupd_other (r : Int → Int → Option Po) {m m' : Int} (f : Int → Option Po) (h : m' ≠ m) : rupd r m f m' = r m' := if_neg h
/-- a member's first position: a map for it. -/
theorem Ps.new {w w' : World} {O : Nat → Prop} {k : Nat} {g : Int → Int → Po} {B : Option Nat} {q M : Nat} {h : Int → Option (Option Nat)} {r : Int → Int → Option Po} (H : Ps w O k g B q h r) (m : Int) (hm : U32 m) (hn : h m = none) (hM : w.heap.size ≤ M) (hl : ∀ b, O b → b < w.heap.size) (hb : ∀ b, B = some b → b < w.heap.size)
    (h1 : Mp kvM w' q (k + 1) (upd h m (some M))) (h2 : w'.heap[M]? = some (.map #[] 0)) (hK : Kp (fun j => j = q) w w') : Ps w' (fun j => O j ∨ j = M) (k + 1) g B q (upd h m (some M)) (rupd r m (fun _ => none)) := by
  have hq := hl q H.own
  refine ⟨.inl H.own, h1, fun m' hm' e i hi => ?_, fun m' o hm' e => ?_, fun a b N ha hb ea eb => ?_, fun b eb => ⟨(H.nb b eb).1, fun m' hm' e => ?_⟩⟩
  · by_cases e2 : m' = m
    · subst e2; rw [upd_same] at e; cases e
    · rw [upd_other _ _ e2] at e; exact H.no m' hm' e i hi
  · by_cases e2 : m' = m
    · subst e2
      rw [upd_same] at e
      cases e
      refine ⟨M, rfl, .inr rfl, by omega, by rw [rupd_same]; exact mp_empty kvP h2 _, fun i hi => ?_⟩
      rw [rupd_same]
      exact H.no m' hm hn i hi
    · rw [upd_other _ _ e2] at e
      obtain ⟨N, e3, x1, x2, x3, x4⟩ := H.yes m' o hm' e
      refine ⟨N, e3, .inl x1, x2, by rw [rupd_other _ _ e2]; exact (x3.kept hK x2).mono (Nat.le_succ _), fun i hi => by rw [rupd_other _ _ e2]; exact x4 i hi⟩
  · have key : ∀ a, U32 a → a ≠ m → upd h m (some M) a = some (some N) → N < w.heap.size := fun a ha ne e => by
      rw [upd_other _ _ ne] at e
      obtain ⟨N', e3, x1, _⟩ := H.yes a _ ha e
      cases e3
      exact hl N x1
    by_cases e1 : a = m <;> by_cases e2 : b = m
    · rw [e1, e2]
    · subst e1
      rw [upd_same] at ea
      have := key b hb e2 eb
      injection ea with ea
      injection ea with ea
      omega
    · subst e2
      rw [upd_same] at eb
      have := key a ha e1 ea
      injection eb with eb
      injection eb with eb
      omega
    · rw [upd_other _ _ e1] at ea
      rw [upd_other _ _ e2] at eb
      exact H.inj a b N ha hb ea eb
  · by_cases e2 : m' = m
    · subst e2
      rw [upd_same] at e
      injection e with e
      injection e with e
      have := hb b eb
      omega
    · rw [upd_other _ _ e2] at e
      exact (H.nb b eb).2 m' hm' e
theorem Ps.put {w w' : World} {O : Nat → Prop} {k : Nat} {g : Int → Int → Po} {B : Option Nat} {q M : Nat} {h : Int → Option (Option Nat)} {r : Int → Int → Option Po} (H : Ps w O k g B q h r) (m i : Int) (x : Po) (hm : U32 m) (hi : U32 i) (hn : h m = some (some M)) (h1 : Mp kvP w' M (k + 1) (upd (r m) i x)) (hK : Kp (fun j => j = M) w w') : Ps w' O (k + 1) (gupd g m i x) B q h (rupd r m (upd (r m) i x)) := by
  obtain ⟨N, e3, _, x2, _, x4⟩ := H.yes m _ hm hn
  cases e3
  refine ⟨H.own, (H.mp.kept hK (fun e => x2 e.symm)).mono (Nat.le_succ _), fun m' hm' e i' hi' => ?_, fun m' o hm' e => ?_, H.inj, H.nb⟩
  · have ne : m' ≠ m := fun e2 => by rw [e2, hn] at e; cases e
    unfold gupd
    rw [if_neg (fun h => ne h.1)]
    exact H.no m' hm' e i' hi'
  · by_cases e2 : m' = m
    · subst e2
      rw [hn] at e
      cases e
      obtain ⟨_, e3, y1, y2, _, _⟩ := H.yes m' _ hm hn
      cases e3
      refine ⟨M, rfl, y1, y2, by rw [rupd_same]; exact h1, fun i' hi' => ?_⟩
      rw [rupd_same]
      unfold gupd
      by_cases e4 : i' = i
      · subst e4
        rw [if_pos ⟨rfl, rfl⟩, upd_same]
        rfl
      · rw [if_neg (fun h => e4 h.2), upd_other _ _ e4]
        exact x4 i' hi'
    · obtain ⟨N, e3, y1, y2, y3, y4⟩ := H.yes m' o hm' e
      have nN : ¬ N = M := fun e5 => by
        rw [e3, e5] at e
        exact e2 (H.inj m' m M hm' hm e hn)
      refine ⟨N, e3, y1, y2, by rw [rupd_other _ _ e2]; exact (y3.kept hK nN).mono (Nat.le_succ _), fun i' hi' => ?_⟩
      · rw [rupd_other _ _ e2]
        unfold gupd
        rw [if_neg (fun h => e2 h.1)]
        exact y4 i' hi'
/-- positions changed, all else as it was. -/
theorem Lgx.repos {w w' : World} {G : Nat} {O O' : Nat → Prop} {k : Nat} {s : Ls} {B : Option Nat} {q : Nat} {p : Option Addr} {c : Nat} {F : Nat → Prop} (h : Lgx w G O k s B (some q) p c) (g : Int → Int → Po) (hK : Kp F w w') (hF : ∀ j, F j → j < w.heap.size → ∃ es cl, w.heap[j]? = some (.map es cl)) (hb : ∀ b, B = some b → ¬ F b) (hO : ∀ j, O j → O' j) (hl : ∀ j, O' j → j < w'.heap.size)
    (hp : Pl w' O' (k + 1) g B (some q)) (hg : ∀ m i, PoOk (g m i) ∧ absI (g m i).qt ≤ 4294967295) : Lgx w' G O' (k + 1) { s with g := g } B (some q) p c := by
  have hc : ∀ {j : Nat} {cs : Array Value} {t : TypeId}, w.heap[j]? = some (.cells cs t (0, 0)) → ¬ F j := fun {j cs t} e hf => by
    obtain ⟨es, cl, h1⟩ := hF j hf (row_lt e)
    rw [h1] at e
    cases e
  refine ⟨hK.row h.row (hc h.row), hO _ h.oG, fun b hb => hO _ (h.oE b hb), own_same h.own (fun j hj => ?_), ?_, hp, h.both, h.amt, hg, hl, Nat.le_succ_of_le h.len, ⟨h.tf.m0, h.tf.mb, h.tf.t0, h.tf.tb, h.tf.b0, h.tf.b1⟩⟩
  · obtain ⟨cur, hcur⟩ := own_ty h.own hj
    exact hK.obj j (row_lt hcur) (hc hcur)
  · have hbl := h.bal
    cases B with
    | none => exact hbl
    | some b => exact ⟨hO _ hbl.1, (hbl.2.kept hK (hb b rfl)).mono (Nat.le_succ _)⟩
theorem gupd_ok {g : Int → Int → Po} (hg : ∀ m i, PoOk (g m i) ∧ absI (g m i).qt ≤ 4294967295) (m i : Int) (x : Po) (hx : PoOk x) (hq : absI x.qt ≤ 4294967295) : ∀ m' i', PoOk (gupd g m i x m' i') ∧ absI (gupd g m i x m' i').qt ≤ 4294967295 := fun m' i' => by
  unfold gupd
  split
  · exact ⟨hx, hq⟩
  · exact hg m' i'
theorem hold_any {w : World} {G : Nat} {O : Nat → Prop} {k : Nat} {s : Ls} (h : Lg w G O k s) (hB : ∃ x, s.f x ≠ none) (m i : Int) (x : Po) (hm : U32 m) (hi : U32 i) (hx : PoOk x) (hq : absI x.qt ≤ 4294967295) (hk : k ≤ 1000000000000) :
    Calls Try.prog 34 #[.pointer (some ⟨G, 0, none⟩), .int .u32 m, .int .u32 i, .agg x.row] w fun e w' => e = .returned (.tuple #[]) ∧ ∃ O', Lg w' G O' (k + 2) { s with g := gupd s.g m i x } ∧ Kp O w w' ∧ Ex w O O' := by
  obtain ⟨B, P, p, c, h⟩ := h
  cases P with
  | none =>
    have e := h.both.2 rfl
    subst e
    obtain ⟨y, hy⟩ := hB
    exact absurd (h.bal y) hy
  | some q =>
  obtain ⟨a, r, H⟩ := h.pos
  obtain ⟨Wa, hWa⟩ : ∃ W, w.alloc (.cells #[.int .i64 x.qt, .int .u64 (hiW x.co), .int .u64 (loW x.co), .int .u64 (hiW x.ga), .int .u64 (loW x.ga)] 55) = W := ⟨_, rfl⟩
  obtain ⟨R, hR⟩ : ∃ R, w.heap.size = R := ⟨_, rfl⟩
  have HBA := hid (show Below w.heap.size w Wa from by rw [← hWa]; exact ball _ _)
  have HRA := hid (show Wa.heap[R]? = some (.cells #[.int .i64 x.qt, .int .u64 (hiW x.co), .int .u64 (loW x.co), .int .u64 (hiW x.ga), .int .u64 (loW x.ga)] 55 (0, 0)) from by rw [← hWa, ← hR]; exact World.alloc_heap_new _ _)
  have HC := hid (h.on HBA.out)
  have HP := hid (H.same (fun b hb => HBA.out.block b (h.lt b hb)))
  have HG := hid HC.out.row
  unfold lrow at HG
  have a5 := row_cell HG.out 5
  simp only [List.getElem?_toArray, List.getElem?_cons_succ, List.getElem?_cons_zero] at a5
  have eqm := fun U r => run_eql_map_nil (P := Try.prog) U 80 22 55 r Try.underlying80
  have HM := hid hm
  have HI := hid hi
  have HGO := hid (gupd_ok h.gok m i x hx hq)
  have HWa := hid hWa
  have HR := hid hR
  have K1 := hid (show k < maxLen from by unfold maxLen; omega)
  have K2 := hid (show k + 1 < maxLen from by unfold maxLen; omega)
  have HBN := hid (show ∀ b, B = some b → b < Wa.heap.size from fun b e => by have hb := HC.out.bal; subst e; exact HC.out.lt b hb.1)
  unfold Po.row
  clear hWa hR h hB hm hi hx hq hk H
  cases e : a m with
  | none =>
    go_enter Try.func34, Try.ntmps34
    go_upto_region 1 with fail
    rw [HWa.out, HR.out]
    clear HWa
    have hl0 : (Instr.lookup 64 (.map (some q)) (.int .u32 m) false).run Try.prog Wa = .ok (.map none) Wa := by have h1 := HP.out.mp.get okM m HM.out; rw [e] at h1; exact h1
    have rm0 : (Instr.makeMap 80 none).run Try.prog Wa = .ok (.map (some Wa.heap.size)) (Wa.alloc (.map #[] 0)) := run_makeMap 80 Wa
    obtain ⟨M, hM0⟩ : ∃ b, Wa.heap.size = b := ⟨_, rfl⟩
    obtain ⟨X1, hX1⟩ : ∃ Y, Wa.alloc (.map #[] 0) = Y := ⟨_, rfl⟩
    rw [hX1, hM0] at rm0
    have D1 := hid (show Below Wa.heap.size Wa X1 from by rw [← hX1]; exact ball _ _)
    have M1 := hid (show X1.heap[M]? = some (.map #[] 0) from by rw [← hX1, ← hM0]; exact World.alloc_heap_new _ _)
    have HMM := hid hM0
    clear hX1 hM0
    obtain ⟨X2, hmu, hM2, hK2⟩ := (HP.out.mp.on D1.out).put okM K1.out m HM.out (some M)
    have hmu : (Instr.mapUpdate 64 (.map (some q)) (.int .u32 m) (.map (some M))).run Try.prog X1 = .ok () X2 := hmu
    have qM : q < M := by have := HC.out.lt q HP.out.own; have := HMM.out; omega
    have KX := hid (show Kp (fun j => j = q) Wa X2 from (Kp.of (fun j => j = q) D1.out).trans hK2 (fun _ _ h => h))
    have M2 := hid (show X2.heap[M]? = some (.map #[] 0) from hK2.row M1.out (fun e => by omega))
    have E0 := hid e
    have HP2 := hid (HP.out.new m HM.out e (by have := HMM.out; omega) HC.out.lt HBN.out hM2 M2.out KX.out)
    have AM := hid (upd_same a m (some M))
    have NQ := hid HP.out.mp.obj
    have HC2 := hid (HC.out.repos (O' := fun j => O j ∨ j = M) s.g KX.out (fun j hj _ => by rw [hj]; exact NQ.out) (fun b eb hj => (HP.out.nb b eb).1 hj) (fun _ h => .inl h) (fun j hj => by rcases hj with h | h; exact Nat.lt_of_lt_of_le (HC.out.lt j h) KX.out.size; rw [h]; exact row_lt M2.out) ⟨_, _, HP2.out⟩ HC.out.gok)
    have QA := hid (KX.out.row HRA.out (fun e => by obtain ⟨es, cl, h1⟩ := NQ.out; have h2 := HRA.out; rw [e, h1] at h2; cases h2))
    have HK2 := hid hK2
    clear hK2 hM2 e
    go_upto_region 3 with fail
    clear hl0 rm0 hmu a5
    have LG := hid HC2.out.row
    unfold lrow at LG
    obtain ⟨V1, hV1⟩ : ∃ U, X2.drew = U := ⟨_, rfl⟩
    have BV1 := hid (show Below X2.heap.size X2 V1 from by rw [← hV1]; exact bdrew1 _)
    have r2 := hid (row_on LG.out BV1.out)
    have r3 := hid (row_on QA.out BV1.out)
    refine wp_region_held_drew (S := fun U => U.cell? ⟨G, 5, none⟩ = some (.map (some q)) ∧ U.cell? ⟨R, 0, none⟩ = some (.int .i64 x.qt) ∧ U.cell? ⟨R, 1, none⟩ = some (.int .u64 (hiW x.co)) ∧ U.cell? ⟨R, 2, none⟩ = some (.int .u64 (loW x.co)) ∧ U.cell? ⟨R, 3, none⟩ = some (.int .u64 (hiW x.ga)) ∧ U.cell? ⟨R, 4, none⟩ = some (.int .u64 (loW x.ga))) (by kernel_rfl) ?_ (fun hHeld => ?_)
    · (try dsimp only); rw [hV1]; exact ⟨row_cell r2.out 5, row_cell r3.out 0, row_cell r3.out 1, row_cell r3.out 2, row_cell r3.out 3, row_cell r3.out 4⟩
    rw [hV1] at hHeld ⊢
    clear hV1
    refine' wpAnyH_take (i := 0) (oi := _) (v := _) rfl (by kernel_rfl) (by kernel_rfl) (by kernel_rfl) (fun _ _ _ h => h) (Or.inl ⟨by kernel_rfl, ?_⟩) (by assumption) ?_
    rotate_left
    · (intro w hSw; (try dsimp only at hSw); go_simp; try (with_reducible rfl))
    try simp only [List.getElem_toArray, List.getElem_cons_succ, List.getElem_cons_zero, Act.put, List.setIfInBounds_toArray, List.set_cons_zero, List.set_cons_succ]
    refine' wpAnyH_take (i := 1) (oi := _) (v := _) rfl (by kernel_rfl) (by kernel_rfl) (by kernel_rfl) (fun _ _ _ h => h) (Or.inl ⟨by kernel_rfl, ?_⟩) (by assumption) ?_
    rotate_left
    · (intro w hSw; (try dsimp only at hSw); go_simp; try (with_reducible rfl))
    try simp only [List.getElem_toArray, List.getElem_cons_succ, List.getElem_cons_zero, Act.put, List.setIfInBounds_toArray, List.set_cons_zero, List.set_cons_succ]
    refine' wpAnyH_take (i := 2) (oi := _) (v := _) rfl (by kernel_rfl) (by kernel_rfl) (by kernel_rfl) (fun _ _ _ h => h) (Or.inl ⟨by kernel_rfl, ?_⟩) (by assumption) ?_
    rotate_left
    · (intro w hSw; (try dsimp only at hSw); go_simp; try (with_reducible rfl))
    try simp only [List.getElem_toArray, List.getElem_cons_succ, List.getElem_cons_zero, Act.put, List.setIfInBounds_toArray, List.set_cons_zero, List.set_cons_succ]
    refine' wpAnyH_take (i := 3) (oi := _) (v := _) rfl (by kernel_rfl) (by kernel_rfl) (by kernel_rfl) (fun _ _ _ h => h) (Or.inl ⟨by kernel_rfl, ?_⟩) (by assumption) ?_
    rotate_left
    · (intro w hSw; (try dsimp only at hSw); go_simp; try (with_reducible rfl))
    try simp only [List.getElem_toArray, List.getElem_cons_succ, List.getElem_cons_zero, Act.put, List.setIfInBounds_toArray, List.set_cons_zero, List.set_cons_succ]
    refine' wpAnyH_take (i := 4) (oi := _) (v := _) rfl (by kernel_rfl) (by kernel_rfl) (by kernel_rfl) (fun _ _ _ h => h) (Or.inl ⟨by kernel_rfl, ?_⟩) (by assumption) ?_
    rotate_left
    · (intro w hSw; (try dsimp only at hSw); go_simp; try (with_reducible rfl))
    try simp only [List.getElem_toArray, List.getElem_cons_succ, List.getElem_cons_zero, Act.put, List.setIfInBounds_toArray, List.set_cons_zero, List.set_cons_succ]
    refine' wpAnyH_take (i := 6) (oi := _) (v := _) rfl (by kernel_rfl) (by kernel_rfl) (by kernel_rfl) (fun _ _ _ h => h) (Or.inl ⟨by kernel_rfl, ?_⟩) (by assumption) ?_
    rotate_left
    · (intro w hSw; (try dsimp only at hSw); go_simp; try (with_reducible rfl))
    try simp only [List.getElem_toArray, List.getElem_cons_succ, List.getElem_cons_zero, Act.put, List.setIfInBounds_toArray, List.set_cons_zero, List.set_cons_succ]
    refine' wpAnyH_take (i := 7) (oi := _) (v := _) rfl (by kernel_rfl) (by kernel_rfl) (by kernel_rfl) (fun _ _ _ h => h) (Or.inl ⟨by kernel_rfl, ?_⟩) (by assumption) ?_
    rotate_left
    · (intro w hSw; (try dsimp only at hSw); go_simp; try (with_reducible rfl))
    try simp only [List.getElem_toArray, List.getElem_cons_succ, List.getElem_cons_zero, Act.put, List.setIfInBounds_toArray, List.set_cons_zero, List.set_cons_succ]
    refine wpAnyH_ready (rs := [5]) (by kernel_rfl) (by simp) ?_
    refine (AllReadyH.cons (o := _) rfl (fun K hK => ?_) AllReadyH.nil)
    have hl : (Instr.lookup 64 (.map (some q)) (.int .u32 m) false).run Try.prog V1 = .ok (.map (some M)) V1 := by have h1 := (HP2.out.mp.on BV1.out).get okM m HM.out; rw [AM.out] at h1; exact h1
    go_simp
    refine hK.out _ _ ?_ (fun hHeld => ?_)
    · (try dsimp only); exact ⟨row_cell r2.out 5, row_cell r3.out 0, row_cell r3.out 1, row_cell r3.out 2, row_cell r3.out 3, row_cell r3.out 4⟩
    clear hK K
    try simp only [List.getElem_toArray, List.getElem_cons_succ, List.getElem_cons_zero, Act.put, List.setIfInBounds_toArray, List.set_cons_zero, List.set_cons_succ]
    clear hl
    refine wpAnyH_ready (rs := [8]) (by kernel_rfl) (by simp) ?_
    refine (AllReadyH.cons (o := _) rfl (fun K hK => ?_) AllReadyH.nil)
    obtain ⟨_, e3, o1, o2, o3, _⟩ := HP2.out.yes m _ HM.out AM.out
    cases e3
    obtain ⟨Y, hmu, hM, hK9⟩ := (o3.on BV1.out).put okP K2.out i HI.out x
    have hmu : (Instr.mapUpdate 80 (.map (some M)) (.int .u32 i) (.agg #[.int .i64 x.qt, .int .u64 (hiW x.co), .int .u64 (loW x.co), .int .u64 (hiW x.ga), .int .u64 (loW x.ga)])).run Try.prog V1 = .ok () Y := hmu
    have HY := hid hM
    have KY := hid hK9
    have NM := hid (o3.on BV1.out).obj
    have OM := hid o1
    have OQ := hid o2
    clear hM hK9 o1 o2 o3
    go_simp
    have r4 := hid (KY.out.row r2.out (fun e => by obtain ⟨es, cl, h1⟩ := NM.out; have h2 := r2.out; rw [e, h1] at h2; cases h2))
    have r5 := hid (KY.out.row r3.out (fun e => by obtain ⟨es, cl, h1⟩ := NM.out; have h2 := r3.out; rw [e, h1] at h2; cases h2))
    refine hK.out _ _ ?_ (fun hHeld => ?_)
    · (try dsimp only); exact ⟨row_cell r4.out 5, row_cell r5.out 0, row_cell r5.out 1, row_cell r5.out 2, row_cell r5.out 3, row_cell r5.out 4⟩
    clear hK K
    try simp only [List.getElem_toArray, List.getElem_cons_succ, List.getElem_cons_zero, Act.put, List.setIfInBounds_toArray, List.set_cons_zero, List.set_cons_succ]
    refine wpAnyH_done (by kernel_rfl) ?_ _
    clear hmu
    go_end0
    have lz := hid (HC2.out.on BV1.out)
    have pz := hid ((HP2.out.same (fun b hb => BV1.out.block b (HC2.out.lt b hb))).put m i x HM.out HI.out AM.out HY.out KY.out)
    have lf := lz.out.repos (O' := fun j => O j ∨ j = M) (gupd s.g m i x) KY.out (fun j hj _ => by rw [hj]; exact NM.out) (fun b eb hj => (HP2.out.nb b eb).2 m HM.out (by rw [hj]; exact AM.out)) (fun _ h => h) (fun j hj => Nat.lt_of_lt_of_le (lz.out.lt j hj) KY.out.size) ⟨_, _, pz.out⟩ HGO.out
    refine ⟨rfl, fun j => O j ∨ j = M, ⟨_, _, _, _, lf⟩, ?_, fun j hj => ?_⟩
    · refine ((Kp.of O HBA.out).trans KX.out (fun g _ h => by rw [h]; exact HP.out.own)).trans ((Kp.of (fun j => j = M) BV1.out).trans KY.out (fun _ _ h => h)) (fun g hg h => absurd h (fun h => by have := HMM.out; have := HBA.out.size; omega))
    · rcases hj with h | h
      · exact .inl h
      · exact .inr (by have := HMM.out; have := HBA.out.size; omega)
  | some o =>
    obtain ⟨M, eo, _⟩ := HP.out.yes m o HM.out e
    subst eo
    have AM := hid e
    have QA := hid HRA.out
    have hl0 : (Instr.lookup 64 (.map (some q)) (.int .u32 m) false).run Try.prog Wa = .ok (.map (some M)) Wa := by have h1 := HP.out.mp.get okM m HM.out; rw [e] at h1; exact h1
    clear e
    go_enter Try.func34, Try.ntmps34
    go_upto_region 1 with fail
    rw [HWa.out, HR.out]
    clear HWa
    go_upto_region 3 with fail
    clear hl0 a5
    have LG := hid HC.out.row
    unfold lrow at LG
    obtain ⟨V6, hV6⟩ : ∃ U, Wa.drew = U := ⟨_, rfl⟩
    have BV6 := hid (show Below Wa.heap.size Wa V6 from by rw [← hV6]; exact bdrew1 _)
    have r7 := hid (row_on LG.out BV6.out)
    have r8 := hid (row_on QA.out BV6.out)
    refine wp_region_held_drew (S := fun U => U.cell? ⟨G, 5, none⟩ = some (.map (some q)) ∧ U.cell? ⟨R, 0, none⟩ = some (.int .i64 x.qt) ∧ U.cell? ⟨R, 1, none⟩ = some (.int .u64 (hiW x.co)) ∧ U.cell? ⟨R, 2, none⟩ = some (.int .u64 (loW x.co)) ∧ U.cell? ⟨R, 3, none⟩ = some (.int .u64 (hiW x.ga)) ∧ U.cell? ⟨R, 4, none⟩ = some (.int .u64 (loW x.ga))) (by kernel_rfl) ?_ (fun hHeld => ?_)
    · (try dsimp only); rw [hV6]; exact ⟨row_cell r7.out 5, row_cell r8.out 0, row_cell r8.out 1, row_cell r8.out 2, row_cell r8.out 3, row_cell r8.out 4⟩
    rw [hV6] at hHeld ⊢
    clear hV6
    refine' wpAnyH_take (i := 0) (oi := _) (v := _) rfl (by kernel_rfl) (by kernel_rfl) (by kernel_rfl) (fun _ _ _ h => h) (Or.inl ⟨by kernel_rfl, ?_⟩) (by assumption) ?_
    rotate_left
    · (intro w hSw; (try dsimp only at hSw); go_simp; try (with_reducible rfl))
    try simp only [List.getElem_toArray, List.getElem_cons_succ, List.getElem_cons_zero, Act.put, List.setIfInBounds_toArray, List.set_cons_zero, List.set_cons_succ]
    refine' wpAnyH_take (i := 1) (oi := _) (v := _) rfl (by kernel_rfl) (by kernel_rfl) (by kernel_rfl) (fun _ _ _ h => h) (Or.inl ⟨by kernel_rfl, ?_⟩) (by assumption) ?_
    rotate_left
    · (intro w hSw; (try dsimp only at hSw); go_simp; try (with_reducible rfl))
    try simp only [List.getElem_toArray, List.getElem_cons_succ, List.getElem_cons_zero, Act.put, List.setIfInBounds_toArray, List.set_cons_zero, List.set_cons_succ]
    refine' wpAnyH_take (i := 2) (oi := _) (v := _) rfl (by kernel_rfl) (by kernel_rfl) (by kernel_rfl) (fun _ _ _ h => h) (Or.inl ⟨by kernel_rfl, ?_⟩) (by assumption) ?_
    rotate_left
    · (intro w hSw; (try dsimp only at hSw); go_simp; try (with_reducible rfl))
    try simp only [List.getElem_toArray, List.getElem_cons_succ, List.getElem_cons_zero, Act.put, List.setIfInBounds_toArray, List.set_cons_zero, List.set_cons_succ]
    refine' wpAnyH_take (i := 3) (oi := _) (v := _) rfl (by kernel_rfl) (by kernel_rfl) (by kernel_rfl) (fun _ _ _ h => h) (Or.inl ⟨by kernel_rfl, ?_⟩) (by assumption) ?_
    rotate_left
    · (intro w hSw; (try dsimp only at hSw); go_simp; try (with_reducible rfl))
    try simp only [List.getElem_toArray, List.getElem_cons_succ, List.getElem_cons_zero, Act.put, List.setIfInBounds_toArray, List.set_cons_zero, List.set_cons_succ]
    refine' wpAnyH_take (i := 4) (oi := _) (v := _) rfl (by kernel_rfl) (by kernel_rfl) (by kernel_rfl) (fun _ _ _ h => h) (Or.inl ⟨by kernel_rfl, ?_⟩) (by assumption) ?_
    rotate_left
    · (intro w hSw; (try dsimp only at hSw); go_simp; try (with_reducible rfl))
    try simp only [List.getElem_toArray, List.getElem_cons_succ, List.getElem_cons_zero, Act.put, List.setIfInBounds_toArray, List.set_cons_zero, List.set_cons_succ]
    refine' wpAnyH_take (i := 6) (oi := _) (v := _) rfl (by kernel_rfl) (by kernel_rfl) (by kernel_rfl) (fun _ _ _ h => h) (Or.inl ⟨by kernel_rfl, ?_⟩) (by assumption) ?_
    rotate_left
    · (intro w hSw; (try dsimp only at hSw); go_simp; try (with_reducible rfl))
    try simp only [List.getElem_toArray, List.getElem_cons_succ, List.getElem_cons_zero, Act.put, List.setIfInBounds_toArray, List.set_cons_zero, List.set_cons_succ]
    refine' wpAnyH_take (i := 7) (oi := _) (v := _) rfl (by kernel_rfl) (by kernel_rfl) (by kernel_rfl) (fun _ _ _ h => h) (Or.inl ⟨by kernel_rfl, ?_⟩) (by assumption) ?_
    rotate_left
    · (intro w hSw; (try dsimp only at hSw); go_simp; try (with_reducible rfl))
    try simp only [List.getElem_toArray, List.getElem_cons_succ, List.getElem_cons_zero, Act.put, List.setIfInBounds_toArray, List.set_cons_zero, List.set_cons_succ]
    refine wpAnyH_ready (rs := [5]) (by kernel_rfl) (by simp) ?_
    refine (AllReadyH.cons (o := _) rfl (fun K hK => ?_) AllReadyH.nil)
    have hl : (Instr.lookup 64 (.map (some q)) (.int .u32 m) false).run Try.prog V6 = .ok (.map (some M)) V6 := by have h1 := (HP.out.mp.on BV6.out).get okM m HM.out; rw [AM.out] at h1; exact h1
    go_simp
    refine hK.out _ _ ?_ (fun hHeld => ?_)
    · (try dsimp only); exact ⟨row_cell r7.out 5, row_cell r8.out 0, row_cell r8.out 1, row_cell r8.out 2, row_cell r8.out 3, row_cell r8.out 4⟩
    clear hK K
    try simp only [List.getElem_toArray, List.getElem_cons_succ, List.getElem_cons_zero, Act.put, List.setIfInBounds_toArray, List.set_cons_zero, List.set_cons_succ]
    clear hl
    refine wpAnyH_ready (rs := [8]) (by kernel_rfl) (by simp) ?_
    refine (AllReadyH.cons (o := _) rfl (fun K hK => ?_) AllReadyH.nil)
    obtain ⟨_, e3, o1, o2, o3, _⟩ := HP.out.yes m _ HM.out AM.out
    cases e3
    obtain ⟨Y, hmu, hM, hK9⟩ := (o3.on BV6.out).put okP K1.out i HI.out x
    have hmu : (Instr.mapUpdate 80 (.map (some M)) (.int .u32 i) (.agg #[.int .i64 x.qt, .int .u64 (hiW x.co), .int .u64 (loW x.co), .int .u64 (hiW x.ga), .int .u64 (loW x.ga)])).run Try.prog V6 = .ok () Y := hmu
    have HY := hid hM
    have KY := hid hK9
    have NM := hid (o3.on BV6.out).obj
    have OM := hid o1
    have OQ := hid o2
    clear hM hK9 o1 o2 o3
    go_simp
    have r9 := hid (KY.out.row r7.out (fun e => by obtain ⟨es, cl, h1⟩ := NM.out; have h2 := r7.out; rw [e, h1] at h2; cases h2))
    have r10 := hid (KY.out.row r8.out (fun e => by obtain ⟨es, cl, h1⟩ := NM.out; have h2 := r8.out; rw [e, h1] at h2; cases h2))
    refine hK.out _ _ ?_ (fun hHeld => ?_)
    · (try dsimp only); exact ⟨row_cell r9.out 5, row_cell r10.out 0, row_cell r10.out 1, row_cell r10.out 2, row_cell r10.out 3, row_cell r10.out 4⟩
    clear hK K
    try simp only [List.getElem_toArray, List.getElem_cons_succ, List.getElem_cons_zero, Act.put, List.setIfInBounds_toArray, List.set_cons_zero, List.set_cons_succ]
    refine wpAnyH_done (by kernel_rfl) ?_ _
    clear hmu
    go_end0
    have lz := hid (HC.out.on BV6.out)
    have pz := hid ((HP.out.same (fun b hb => BV6.out.block b (HC.out.lt b hb))).put m i x HM.out HI.out AM.out HY.out KY.out)
    have lf := lz.out.repos (O' := O) (gupd s.g m i x) KY.out (fun j hj _ => by rw [hj]; exact NM.out) (fun b eb hj => (HP.out.nb b eb).2 m HM.out (by rw [hj]; exact AM.out)) (fun _ h => h) (fun j hj => Nat.lt_of_lt_of_le (lz.out.lt j hj) KY.out.size) ⟨_, _, pz.out⟩ HGO.out
    refine ⟨rfl, O, ⟨_, _, _, _, lf.mono (fun _ h => h) lf.lt (Nat.le_succ _)⟩, ?_, Ex.refl _ _⟩
    exact ((Kp.of O HBA.out).trans (Kp.of O BV6.out) (fun _ _ h => h)).trans KY.out (fun g _ h => by rw [h]; exact OM.out)

end Go.Proofs.Ytphhllppgelceaa.Ac
