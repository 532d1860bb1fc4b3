/-
  step. Written by mkst.py.
-/
import Derived.Test.YthidnipmkffilaaIyN
import Derived.Deep.RegionHeld3
namespace Go.Proofs.Ythidnipmkffilaa
open Go.RowKit Go.Deep
set_option linter.unusedVariables false
set_option linter.unusedSimpArgs false
set_option maxRecDepth 100000
set_option maxHeartbeats 16000000
/-- what stands in step. -/
structure Ps (W0 : World) (X P R Q n room : Nat) (T T2 : Ix.Tab) (o : OpI) (U : World) : Prop where
  lx : Lx U X P n room T
  tx : Ix.Tidy n (hm n) T
  rx : Rx U R Q n room T2
  b0 : U.heap[W0.heap.size]? = some (.cells #[.pointer (some ⟨X, 0, none⟩), .pointer (some ⟨R, 0, none⟩)] 25 (0, 0))
  b1 : U.heap[W0.heap.size + 1]? = some (.cells (oprow o) 40 (0, 0))
  kp : ∀ g, g < W0.heap.size → ¬ (g = X ∨ g = P ∨ g = R ∨ g = Q) → U.heap[g]? = W0.heap[g]?
  si : W0.heap.size ≤ U.heap.size ∧ U.os = W0.os ∧ U.tape = W0.tape ∧ U.output = W0.output
theorem Ps.on {W0 : World} {X P R Q n room : Nat} {T T2 : Ix.Tab} {o : OpI} {U V : World} (h : Ps W0 X P R Q n room T T2 o U) (b : Below U.heap.size U V) : Ps W0 X P R Q n room T T2 o V :=
  have k := Kp.ofBelow (fun _ => False) b
  ⟨h.lx.kp k (fun h => h) (fun h => h), h.tx, h.rx.kp k (fun h => h) (fun h => h), row_on h.b0 b, row_on h.b1 b, fun g hg hn => (b.block g (Nat.lt_of_lt_of_le hg h.si.1)).trans (h.kp g hg hn), ⟨Nat.le_trans h.si.1 b.size, b.os.trans h.si.2.1, b.tape.trans h.si.2.2.1, b.output.trans h.si.2.2.2⟩⟩
theorem Ps.kf {W0 : World} {X P R Q n room : Nat} {T T2 : Ix.Tab} {o : OpI} {U V : World} (h : Ps W0 X P R Q n room T T2 o U) (k : Kp (fun _ => False) U V) : Ps W0 X P R Q n room T T2 o V :=
  ⟨h.lx.kp k (fun h => h) (fun h => h), h.tx, h.rx.kp k (fun h => h) (fun h => h), k.row h.b0 (fun h => h), k.row h.b1 (fun h => h), fun g hg hn => (k.obj g (Nat.lt_of_lt_of_le hg h.si.1) (fun h => h)).trans (h.kp g hg hn), ⟨Nat.le_trans h.si.1 k.size, k.os.trans h.si.2.1, k.tape.trans h.si.2.2.1, k.output.trans h.si.2.2.2⟩⟩
theorem Ps.prog {W0 : World} {X P R Q n room : Nat} {T T2 T' : Ix.Tab} {o : OpI} {U V : World} (h : Ps W0 X P R Q n room T T2 o U) (hl : Lx V X P n room T') (ht : Ix.Tidy n (hm n) T') (k : Kp (fun b => b = X ∨ b = P) U V) : Ps W0 X P R Q n room T' T2 o V := by
  obtain ⟨c1, e1⟩ := h.lx.isP'
  obtain ⟨c2, e2⟩ := h.rx.isP'
  have ne : ∀ {g : Nat} {c' : Array Value} {t : TypeId}, U.heap[g]? = some (.cells c' t (0, 0)) → t ≠ 69 → t ≠ 71 → ¬ (g = X ∨ g = P) := fun {g c' t} h1 h2 h3 => by
    rintro (e | e)
    · subst e; rw [h.lx.row] at h1; injection h1 with h1; injection h1 with _ h1 _; exact h2 h1.symm
    · subst e; rw [e1] at h1; injection h1 with h1; injection h1 with _ h1 _; exact h3 h1.symm
  exact ⟨hl, ht, h.rx.kp k (ne h.rx.row (by decide) (by decide)) (ne e2 (by decide) (by decide)), k.row h.b0 (ne h.b0 (by decide) (by decide)), k.row h.b1 (ne h.b1 (by decide) (by decide)), fun g hg hn => (k.obj g (Nat.lt_of_lt_of_le hg h.si.1) (fun e => hn (by rcases e with e | e; exact .inl e; exact .inr (.inl e)))).trans (h.kp g hg hn), ⟨Nat.le_trans h.si.1 k.size, k.os.trans h.si.2.1, k.tape.trans h.si.2.2.1, k.output.trans h.si.2.2.2⟩⟩
theorem Ps.docu {W0 : World} {X P R Q n room : Nat} {T T2 T' : Ix.Tab} {o : OpI} {U V : World} (h : Ps W0 X P R Q n room T T2 o U) (hl : Rx V R Q n room T') (k : Kp (fun b => b = R ∨ b = Q) U V) : Ps W0 X P R Q n room T T' o V := by
  obtain ⟨c1, e1⟩ := h.lx.isP'
  obtain ⟨c2, e2⟩ := h.rx.isP'
  have ne : ∀ {g : Nat} {c' : Array Value} {t : TypeId}, U.heap[g]? = some (.cells c' t (0, 0)) → t ≠ 33 → t ≠ 74 → ¬ (g = R ∨ g = Q) := fun {g c' t} h1 h2 h3 => by
    rintro (e | e)
    · subst e; rw [h.rx.row] at h1; injection h1 with h1; injection h1 with _ h1 _; exact h2 h1.symm
    · subst e; rw [e2] at h1; injection h1 with h1; injection h1 with _ h1 _; exact h3 h1.symm
  exact ⟨h.lx.kp k (ne h.lx.row (by decide) (by decide)) (ne e1 (by decide) (by decide)), h.tx, hl, k.row h.b0 (ne h.b0 (by decide) (by decide)), k.row h.b1 (ne h.b1 (by decide) (by decide)), fun g hg hn => (k.obj g (Nat.lt_of_lt_of_le hg h.si.1) (fun e => hn (by rcases e with e | e; exact .inr (.inr (.inl e)); exact .inr (.inr (.inr e))))).trans (h.kp g hg hn), ⟨Nat.le_trans h.si.1 k.size, k.os.trans h.si.2.1, k.tape.trans h.si.2.2.1, k.output.trans h.si.2.2.2⟩⟩
theorem Ps.fin {W0 : World} {X P R Q n room : Nat} {T : Ix.Tab} {o : OpI} {U : World} (h : Ps W0 X P R Q n room T T o U) : ∃ Q' T', Pa U X P R Q' n room T' ∧ Kp (fun b => b = X ∨ b = P ∨ b = R ∨ b = Q) W0 U ∧ (Q' = Q ∨ W0.heap.size ≤ Q') :=
  ⟨Q, T, ⟨h.lx, h.rx, h.tx⟩, ⟨h.si.2.1, h.si.2.2.1, h.si.2.2.2, h.si.1, h.kp⟩, .inl rfl⟩
def Pc (W0 : World) (X R : Nat) (o : OpI) (U : World) : Prop := (U).cell? ⟨W0.heap.size, 0, none⟩ = some (.pointer (some ⟨X, 0, none⟩)) ∧ (U).cell? ⟨W0.heap.size, 1, none⟩ = some (.pointer (some ⟨R, 0, none⟩)) ∧ (U).cell? ⟨W0.heap.size + 1, 0, none⟩ = some (.int .i64 o.kd) ∧ (U).cell? ⟨W0.heap.size + 1, 1, none⟩ = some (.bool o.ot) ∧ (U).cell? ⟨W0.heap.size + 1, 2, none⟩ = some (.int .u64 o.ky) ∧ (U).cell? ⟨W0.heap.size + 1, 3, none⟩ = some (.int .i64 o.v) ∧ (U).cell? ⟨W0.heap.size + 1, 4, none⟩ = some (.int .i64 o.nn)
theorem Ps.cells {W0 : World} {X P R Q n room : Nat} {T T2 : Ix.Tab} {o : OpI} {U : World} (h : Ps W0 X P R Q n room T T2 o U) : Pc W0 X R o U := by
  have a0 := row_cell h.b0 0
  have a1 := row_cell h.b0 1
  have d0 := row_cell h.b1 0
  have d1 := row_cell h.b1 1
  have d2 := row_cell h.b1 2
  have d3 := row_cell h.b1 3
  have d4 := row_cell h.b1 4
  simp only [oprow, List.getElem?_toArray, List.getElem?_cons_succ, List.getElem?_cons_zero] at a0 a1 d0 d1 d2 d3 d4
  exact ⟨a0, a1, d0, d1, d2, d3, d4⟩
theorem step_any {W : World} {X P R Q n room : Nat} {T : Ix.Tab} (h : Pa W X P R Q n room T) (o : OpI) (k0 : 0 ≤ o.ky) (k1 : o.ky ≤ 18446744073709551615) :
    Calls Try.prog 15 #[.agg #[.pointer (some ⟨X, 0, none⟩), .pointer (some ⟨R, 0, none⟩)], .agg (oprow o)] W fun e w' => e = .returned (.bool true) ∧ ∃ Q' T', Pa w' X P R Q' n room T' ∧ Kp (fun b => b = X ∨ b = P ∨ b = R ∨ b = Q) W w' ∧ (Q' = Q ∨ W.heap.size ≤ Q') := by
  obtain ⟨i, hF⟩ := h.fd o.ky
  obtain ⟨V, hV⟩ : ∃ V, (W.alloc (.cells #[.pointer (some ⟨X, 0, none⟩), .pointer (some ⟨R, 0, none⟩)] 25)).alloc (.cells (oprow o) 40) = V := ⟨_, rfl⟩
  have b0 : Below W.heap.size W V := by rw [← hV]; exact btr (ball _ _) (ball _ _)
  have hp := h.on b0
  have HS := hid (show Ps W X P R Q n room T T o V from by
    refine ⟨hp.lx, hp.td, hp.rx, ?_, ?_, fun g hg _ => b0.block g hg, b0.size, b0.os, b0.tape, b0.output⟩
    · rw [← hV]; exact row_on (World.alloc_heap_new _ _) (ball _ _)
    · have := World.alloc_heap_new (W.alloc (.cells #[.pointer (some ⟨X, 0, none⟩), .pointer (some ⟨R, 0, none⟩)] 25)) (.cells (oprow o) 40)
      rw [← hV]; simpa using this)
  have hn0 : 0 < n := by have := h.lx.pos; omega
  have HV := hid hV
  have HF := hid hF
  obtain ⟨a0, a1, d0, d1, d2, d3, d4⟩ := HS.out.cells
  have HSD := hid (HS.out.on (bdr1 V))
  have HGO := hid (goes_any hp o k0 k1)
  have HPL := hid (placed_any hp)
  have HPW := hid (show ∀ w', (∃ T', Pa w' X P R Q n room T' ∧ Kp (fun b => b = X ∨ b = P ∨ b = R ∨ b = Q) V w') → ∃ Q' T', Pa w' X P R Q' n room T' ∧ Kp (fun b => b = X ∨ b = P ∨ b = R ∨ b = Q) W w' ∧ (Q' = Q ∨ W.heap.size ≤ Q') from fun w' ⟨T', c1, c2⟩ => ⟨Q, T', c1, (Kp.ofBelow _ b0).trans c2, .inl rfl⟩)
  have HPB := hid (show ∀ w', Below V.heap.size V w' → ∃ Q' T', Pa w' X P R Q' n room T' ∧ Kp (fun b => b = X ∨ b = P ∨ b = R ∨ b = Q) W w' ∧ (Q' = Q ∨ W.heap.size ≤ Q') from fun w' hb => ⟨Q, T, hp.on hb, Kp.ofBelow _ (btr b0 hb), .inl rfl⟩)
  clear h hF hV b0 hp
  unfold oprow at HV HGO ⊢
  by_cases hk0 : o.kd = 0
  · have e0 : (o.kd == 0) = true := by simpa using hk0
    rw [hk0] at d0
    have HK := hid hk0
    clear hk0 e0
    have C1 := hid (show ∀ U, Ps W X P R Q n room T T o U → Calls Try.prog 20 #[.pointer (some ⟨X, 0, none⟩), .int .u64 o.ky, .int .i64 o.v] U fun e w' => e = .returned (.int .i64 (putT n room T o.ky o.v i).1) ∧ Hid (Ps W X P R Q n room (putT n room T o.ky o.v i).2 T o w') from fun U hU => (put_u hU.lx o.v k0 k1 HF.out).mono fun e w' ⟨q1, q2, q3⟩ => ⟨q1, hid (hU.prog q2 (put_tidy hU.tx o.v hn0 HF.out) q3)⟩)
    have C2 := hid (show ∀ U, Ps W X P R Q n room (putT n room T o.ky o.v i).2 T o U → Calls Try.prog 26 #[.pointer (some ⟨R, 0, none⟩), .int .u64 o.ky, .int .i64 o.v] U fun e w' => e = .returned (.int .i64 (putT n room T o.ky o.v i).1) ∧ Hid (Ps W X P R Q n room (putT n room T o.ky o.v i).2 (putT n room T o.ky o.v i).2 o w') from fun U hU => (rput_u hU.rx o.v k0 k1 HF.out).mono fun e w' ⟨q1, q2, q3⟩ => ⟨q1, hid (hU.docu q2 q3)⟩)
    obtain ⟨z, hz⟩ : ∃ z, (putT n room T o.ky o.v i).1 = z := ⟨_, rfl⟩
    rw [hz] at C1 C2
    have zz : (z == z) = true := by simp
    clear hz
    go_enter Try.func15, Try.ntmps15
    go_upto_region 1 with fail
    rw [HV.out]
    go_upto_region 3 with fail
    go_region_held3 (fun U => (U).cell? ⟨W.heap.size, 0, none⟩ = some (.pointer (some ⟨X, 0, none⟩)) ∧ (U).cell? ⟨W.heap.size, 1, none⟩ = some (.pointer (some ⟨R, 0, none⟩)) ∧ (U).cell? ⟨W.heap.size + 1, 1, none⟩ = some (.bool o.ot) ∧ (U).cell? ⟨W.heap.size + 1, 2, none⟩ = some (.int .u64 o.ky) ∧ (U).cell? ⟨W.heap.size + 1, 3, none⟩ = some (.int .i64 o.v) ∧ (U).cell? ⟨W.heap.size + 1, 4, none⟩ = some (.int .i64 o.nn)) (go_keep) (first | (go_at_call 20; (with_reducible refine (C1.out _ HSD.out).mono ?_); rintro e w1 ⟨rfl, H1⟩; obtain ⟨a0, a1, d0, d1, d2, d3, d4⟩ := H1.out.cells) | (go_at_call 26; (with_reducible refine (C2.out _ H1.out).mono ?_); rintro e w2 ⟨rfl, H2⟩; obtain ⟨a0, a1, d0, d1, d2, d3, d4⟩ := H2.out.cells))
    go_wp2
    go_ret
    exact ⟨rfl, H2.out.fin⟩
  have f0 : (o.kd == 0) = false := by simpa using hk0
  by_cases hk1 : o.kd = 1
  · have e1 : (o.kd == 1) = true := by simpa using hk1
    rw [hk1] at d0
    have HK := hid hk1
    clear hk1 e1
    have C1 := hid (get_u HS.out.lx HF.out)
    have C2 := hid (show ∀ U, Kp (fun _ => False) V U → Calls Try.prog 27 #[.pointer (some ⟨R, 0, none⟩), .int .u64 o.ky] U fun e w' => e = .returned (.tuple #[.int .i64 (eV (T i)), .bool (eU (T i))]) ∧ Kp (fun _ => False) U w' from fun U hU => rget_u (HS.out.kf hU).rx HF.out)
    obtain ⟨z, hz⟩ : ∃ z, eV (T i) = z := ⟨_, rfl⟩
    obtain ⟨y, hy⟩ : ∃ z, eU (T i) = z := ⟨_, rfl⟩
    rw [hz, hy] at C1 C2
    have zz : (z == z) = true := by simp
    have yy : (y == y) = true := by simp
    clear hz hy
    go_enter Try.func15, Try.ntmps15
    go_upto_region 1 with fail
    rw [HV.out]
    go_upto_region 6 with (go_at_call 21; (with_reducible refine (C1.out).mono ?_); rintro e w1 ⟨rfl, h1⟩; have H1 := hid h1; obtain ⟨a0, a1, d0, d1, d2, d3, d4⟩ := (HS.out.kf h1).cells; clear h1)
    go_wp2_with (go_at_call 27; (with_reducible refine (C2.out w1 H1.out).mono ?_); rintro e w2 ⟨rfl, h2⟩; have H2 := hid (H1.out.trans h2); clear h2)
    go_ret
    exact ⟨by simp, (HS.out.kf H2.out).fin⟩
  have f1 : (o.kd == 1) = false := by simpa using hk1
  by_cases hk2 : o.kd = 2
  · have e2 : (o.kd == 2) = true := by simpa using hk2
    rw [hk2] at d0
    have HK := hid hk2
    clear hk2 e2
    have C1 := hid (show Calls Try.prog 19 #[.pointer (some ⟨X, 0, none⟩), .int .u64 o.ky] V fun e w' => e = .returned (.tuple #[.int .i64 (dropT n T i).1, .bool (dropT n T i).2.1]) ∧ Hid (Ps W X P R Q n room (dropT n T i).2.2 T o w') from (drop_u HS.out.lx HS.out.tx HF.out).mono fun e w' ⟨q1, q2, q3, q4⟩ => ⟨q1, hid (HS.out.prog q2 q3 q4)⟩)
    have C2 := hid (show ∀ U, Ps W X P R Q n room (dropT n T i).2.2 T o U → Calls Try.prog 28 #[.pointer (some ⟨R, 0, none⟩), .int .u64 o.ky] U fun e w' => e = .returned (.tuple #[.int .i64 (dropT n T i).1, .bool (dropT n T i).2.1]) ∧ Hid (Ps W X P R Q n room (dropT n T i).2.2 (dropT n T i).2.2 o w') from fun U hU => (rdrop_u hU.rx HS.out.tx HF.out).mono fun e w' ⟨q1, q2, q3⟩ => ⟨q1, hid (hU.docu q2 q3)⟩)
    obtain ⟨z, hz⟩ : ∃ z, (dropT n T i).1 = z := ⟨_, rfl⟩
    obtain ⟨y, hy⟩ : ∃ z, (dropT n T i).2.1 = z := ⟨_, rfl⟩
    rw [hz, hy] at C1 C2
    have zz : (z == z) = true := by simp
    have yy : (y == y) = true := by simp
    clear hz hy
    go_enter Try.func15, Try.ntmps15
    go_upto_region 1 with fail
    rw [HV.out]
    go_upto_region 10 with (go_at_call 19; (with_reducible refine (C1.out).mono ?_); rintro e w1 ⟨rfl, H1⟩; obtain ⟨a0, a1, d0, d1, d2, d3, d4⟩ := H1.out.cells)
    go_wp2_with (go_at_call 28; (with_reducible refine (C2.out w1 H1.out).mono ?_); rintro e w2 ⟨rfl, H2⟩)
    go_ret
    exact ⟨by simp, H2.out.fin⟩
  have f2 : (o.kd == 2) = false := by simpa using hk2
  by_cases hk3 : o.kd = 3
  · have e3 : (o.kd == 3) = true := by simpa using hk3
    rw [hk3] at d0
    have HK := hid hk3
    clear hk3 e3
    have C1 := hid (show ∀ U, Ps W X P R Q n room T T o U → Calls Try.prog 11 #[.pointer (some ⟨X, 0, none⟩)] U fun e w' => e = .returned (.int .i64 (Ix.cnt T n)) ∧ w' = U from fun U hU => len_any hU.lx)
    have C2 := hid (show ∀ U, Ps W X P R Q n room T T o U → Calls Try.prog 10 #[.pointer (some ⟨X, 0, none⟩)] U fun e w' => e = .returned (.int .i64 room) ∧ w' = U from fun U hU => room_any hU.lx)
    obtain ⟨y0, y1, -⟩ := HS.out.rx.cells
    obtain ⟨z, hz⟩ : ∃ z, Ix.cnt T n = z := ⟨_, rfl⟩
    rw [hz] at C1 y1
    have zz : ((z : Int) == (z : Int)) = true := by simp
    have rr : ((room : Int) == (room : Int)) = true := by simp
    have HSN := hid (show ∀ N, Ps W X P R Q n room T T o (V.drewN N) from fun N => HS.out.on (bdrN V N))
    clear hz
    go_enter Try.func15, Try.ntmps15
    go_upto_region 1 with fail
    rw [HV.out]
    go_upto_region 13 with fail
    go_quiet (first | (go_at_call 11; with_reducible exact Calls.quiet_of_same (C1.out _ (HSN.out _))) | (go_at_call 10; with_reducible exact Calls.quiet_of_same (C2.out _ (HSN.out _))))
    go_wp2
    go_ret
    exact ⟨by simp, (HSN.out _).fin⟩
  have f3 : (o.kd == 3) = false := by simpa using hk3
  by_cases hk4 : o.kd = 4
  · have e4 : (o.kd == 4) = true := by simpa using hk4
    rw [hk4] at d0
    have HK := hid hk4
    clear hk4 e4
    rw [HK.out] at HGO
    go_enter Try.func15, Try.ntmps15
    go_upto_region 1 with fail
    rw [HV.out]
    go_wp2_with (go_at_call 29; (with_reducible refine (HGO.out).mono ?_); rintro e w1 ⟨rfl, h1⟩; have H1 := hid (HPW.out w1 h1); clear h1)
    go_ret
    exact ⟨rfl, H1.out⟩
  have f4 : (o.kd == 4) = false := by simpa using hk4
  by_cases hk5 : o.kd = 5
  · have e5 : (o.kd == 5) = true := by simpa using hk5
    rw [hk5] at d0
    have HK := hid hk5
    clear hk5 e5
    go_enter Try.func15, Try.ntmps15
    go_upto_region 1 with fail
    rw [HV.out]
    go_wp2_with (go_at_call 16; (with_reducible refine (HPL.out).mono ?_); rintro e w1 ⟨rfl, h1⟩; have H1 := hid (HPB.out w1 h1); clear h1)
    go_ret
    exact ⟨rfl, H1.out⟩
  have f5 : (o.kd == 5) = false := by simpa using hk5
  by_cases hk6 : o.kd = 6
  · have e6 : (o.kd == 6) = true := by simpa using hk6
    rw [hk6] at d0
    have HK := hid hk6
    clear hk6 e6
    have C1 := hid (show ∀ U, Ps W X P R Q n room T T o U → Calls Try.prog 13 #[.pointer (some ⟨X, 0, none⟩), .int .u64 o.ky] U fun e w' => e = .returned (.int .i64 (hm n o.ky)) ∧ w' = U from fun U hU => Home_any hU.lx o.ky)
    have C2 := hid (show ∀ U, Ps W X P R Q n room T T o U → Calls Try.prog 14 #[.pointer (some ⟨R, 0, none⟩), .int .u64 o.ky] U fun e w' => e = .returned (.int .i64 (hm n o.ky)) ∧ w' = U from fun U hU => RHome_any hU.rx o.ky)
    obtain ⟨z, hz⟩ : ∃ z, hm n o.ky = z := ⟨_, rfl⟩
    rw [hz] at C1 C2
    have zz : ((z : Int) == (z : Int)) = true := by simp
    have HSN := hid (show ∀ N, Ps W X P R Q n room T T o (V.drewN N) from fun N => HS.out.on (bdrN V N))
    clear hz
    go_enter Try.func15, Try.ntmps15
    go_upto_region 1 with fail
    rw [HV.out]
    go_upto_region 19 with fail
    go_quiet (first | (go_at_call 13; with_reducible exact Calls.quiet_of_same (C1.out _ (HSN.out _))) | (go_at_call 14; with_reducible exact Calls.quiet_of_same (C2.out _ (HSN.out _))))
    go_wp2
    go_ret
    exact ⟨by simp, (HSN.out _).fin⟩
  have f6 : (o.kd == 6) = false := by simpa using hk6
  by_cases hk7 : o.kd = 7
  · have e7 : (o.kd == 7) = true := by simpa using hk7
    rw [hk7] at d0
    have HK := hid hk7
    clear hk7 e7
    have C1 := hid (show Calls Try.prog 30 #[.pointer (some ⟨X, 0, none⟩)] V fun e w' => e = .returned (.tuple #[]) ∧ Hid (Ps W X P R Q n room Ix.nil T o w') from (clear_any HS.out.lx).mono fun e w' ⟨q1, q2, q3⟩ => ⟨q1, hid (HS.out.prog q2 (Ix.tidy_nil n (hm n)) q3)⟩)
    have C2 := hid (show ∀ U, Ps W X P R Q n room Ix.nil T o U → Calls Try.prog 31 #[.pointer (some ⟨R, 0, none⟩)] U fun e w' => e = .returned (.tuple #[]) ∧ ∃ Q' T', Pa w' X P R Q' n room T' ∧ Kp (fun b => b = X ∨ b = P ∨ b = R ∨ b = Q) W w' ∧ (Q' = Q ∨ W.heap.size ≤ Q') from fun U hU => (rclear_any hU.rx).mono fun e w' ⟨q1, q2, q3⟩ => by
      obtain ⟨c1, e1⟩ := hU.lx.isP'
      have nX : ¬ X = R := by rintro rfl; have := hU.lx.row; rw [hU.rx.row] at this; simp at this
      have nP : ¬ P = R := by rintro rfl; rw [hU.rx.row] at e1; simp at e1
      exact ⟨q1, U.heap.size, Ix.nil, ⟨hU.lx.kp q3 nX nP, q2, hU.tx⟩, ⟨q3.os.trans hU.si.2.1, q3.tape.trans hU.si.2.2.1, q3.output.trans hU.si.2.2.2, Nat.le_trans hU.si.1 q3.size, fun g hg hn => (q3.obj g (Nat.lt_of_lt_of_le hg hU.si.1) (fun e => hn (.inr (.inr (.inl e))))).trans (hU.kp g hg hn)⟩, .inr hU.si.1⟩)
    go_enter Try.func15, Try.ntmps15
    go_upto_region 1 with fail
    rw [HV.out]
    go_upto_region 22 with (go_at_call 30; (with_reducible refine (C1.out).mono ?_); rintro e w1 ⟨rfl, H1⟩; obtain ⟨a0, a1, d0, d1, d2, d3, d4⟩ := H1.out.cells)
    go_wp2_with (go_at_call 31; (with_reducible refine (C2.out w1 H1.out).mono ?_); rintro e w2 ⟨rfl, h2⟩; have H2 := hid h2; clear h2)
    go_ret
    exact ⟨rfl, H2.out⟩
  have f7 : (o.kd == 7) = false := by simpa using hk7
  go_enter Try.func15, Try.ntmps15
  go_upto_region 1 with fail
  rw [HV.out]
  go_wp2
  go_ret
  exact ⟨rfl, HS.out.fin⟩
end Go.Proofs.Ythidnipmkffilaa
