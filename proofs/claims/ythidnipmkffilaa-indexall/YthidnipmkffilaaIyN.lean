/-
  goes. Written by mkgn.py.
-/
import Derived.Test.YthidnipmkffilaaIyM
namespace Go.Proofs.Ythidnipmkffilaa
open Go.RowKit Go.Deep
set_option linter.unusedVariables false
set_option linter.unusedSimpArgs false
set_option maxRecDepth 100000
set_option maxHeartbeats 16000000
attribute [local go_sem] Oper.semAt_some
theorem nilf (f : Fn) (x y : Array Value) (w : World) : Sem.run Try.prog (binOp BinOp.eql 61 (Value.func f x y) Value.nilFunc) w = .ok (.bool false) w := rfl
theorem twice {p q : Prop} (h : p) (e : p → q) : p ∧ q := ⟨h, e h⟩
def puts (a : Act) (ds : List Nat) (t : Nat → Value) : Act := ds.foldl (fun a d => a.put (some d) (t d)) a
theorem reg_any2 {P : Program} {id : Nat} {ops : Array Oper} {b : Bool} {Q : Exit → Act → World → Prop} {a : Act} {w : World} (ds : List Nat) (T : (Nat → Value) → World → Prop)
    (h1 : (Code.region id ops b).wp P (fun e a' w' => match e with | .normal => a' = puts a ds (fun d => a'.tmps.getD d undef) ∧ T (fun d => a'.tmps.getD d undef) w' | _ => False) a w)
    (h2 : ∀ t w', T t w' → Q .normal (puts a ds t) w') : (Code.region id ops b).wp P Q a w :=
  wp_mono h1 (fun e a' w' h => by
    cases e with
    | normal => obtain ⟨h3, ht⟩ := h; rw [h3]; exact h2 _ w' ht
    | _ => exact h.elim)
/-- how goes begins. -/
theorem gs_begin {W : World} {X P R Q n room : Nat} {T : Ix.Tab} (h : Pa W X P R Q n room T) (o : OpI) {W1 w1 : World} (hW1 : ((W.alloc (.cells #[.pointer (some ⟨X, 0, none⟩), .pointer (some ⟨R, 0, none⟩)] 25)).alloc (.cells (oprow o) 40)).alloc (.cells #[.bool false] 4) = W1) {p : Option Addr} {m c : Nat} {L : List (Int × Int)} (ho : w1.ownsRow W1.heap.size 74 3 (.slice p m c) m (pvs L)) (hb : Below W1.heap.size W1 w1) :
    Gs W ⟨X, P, R, Q, n, room, W.heap.size, W.heap.size + 1, W.heap.size + 1 + 1, w1.heap.size, m, c, p, L, o, T⟩ T (w1.alloc (.cells #[.slice p m c] 31)) := by
  have b0 : Below W.heap.size W W1 := by rw [← hW1]; exact btr (ball _ _) (btr (ball _ _) (ball _ _))
  have r0 : W1.heap[W.heap.size]? = some (.cells #[.pointer (some ⟨X, 0, none⟩), .pointer (some ⟨R, 0, none⟩)] 25 (0, 0)) := by
    rw [← hW1]; exact row_on (row_on (World.alloc_heap_new _ _) (ball _ _)) (ball _ _)
  have r1 : W1.heap[W.heap.size + 1]? = some (.cells (oprow o) 40 (0, 0)) := by
    have := World.alloc_heap_new (W.alloc (.cells #[.pointer (some ⟨X, 0, none⟩), .pointer (some ⟨R, 0, none⟩)] 25)) (.cells (oprow o) 40)
    rw [← hW1]; refine row_on ?_ (ball _ _); simpa using this
  have r2 : W1.heap[W.heap.size + 1 + 1]? = some (.cells #[.bool false] 4 (0, 0)) := by
    have := World.alloc_heap_new ((W.alloc (.cells #[.pointer (some ⟨X, 0, none⟩), .pointer (some ⟨R, 0, none⟩)] 25)).alloc (.cells (oprow o) 40)) (.cells #[.bool false] 4)
    rw [← hW1]; simpa using this
  have ba := ball w1 (.cells #[.slice p m c] 31)
  have bb := btr hb ba
  have bz := btr b0 bb
  have hp := h.on bz
  refine ⟨hp.lx, hp.td, hp.rx, row_on r0 bb, row_on r1 bb, row_on r2 bb, World.alloc_heap_new _ _, ?_, Kp.ofBelow _ bz⟩
  obtain ⟨h0, h1⟩ := own_on' ho ba
  refine ⟨h0, h1.imp id ?_⟩
  rintro ⟨g, c, cur, e1, e2, r⟩
  exact ⟨g, c, cur, e1, Nat.le_trans b0.size e2, r⟩
/-- the document's table is copied. -/
theorem cp_any {W : World} {G : Gc} {T : Ix.Tab} {V2 w4 : World} (h : Gs W G T V2) {cs : Array Value} (hc1 : V2.heap[G.Q]? = some (.cells cs 74 (0, 0))) (hc2 : cs.size = 3 * G.n) (hc3 : ∀ i, i < G.n → cs[i * 3]? = some (.bool (eU (G.T0 i))) ∧ cs[i * 3 + 1]? = some (.int .u64 (eK (G.T0 i))) ∧ cs[i * 3 + 2]? = some (.int .i64 (eV (G.T0 i))))
    (hb : Below (V2.alloc (.cells #[.int .i64 G.room, .int .i64 (Ix.cnt G.T0 G.n), .slice (some ⟨G.Q, 0, none⟩) G.n G.n] 33)).heap.size (V2.alloc (.cells #[.int .i64 G.room, .int .i64 (Ix.cnt G.T0 G.n), .slice (some ⟨G.Q, 0, none⟩) G.n G.n] 33)) w4) {v' : Value} {base : Nat} (ho : w4.ownsRow base 74 3 v' G.n cs.toList) :
    w4.cell? ⟨V2.heap.size, 2, none⟩ = some (.slice (some ⟨G.Q, 0, none⟩) G.n G.n) ∧ w4.frozen? ⟨V2.heap.size, 2, none⟩ = false ∧
    ∃ g2 cap2, v' = .slice (some ⟨g2, 0, none⟩) G.n cap2 ∧ Rg (w4.setCell ⟨V2.heap.size, 2, none⟩ v') V2.heap.size g2 G.n cap2 G.room G.T0 ∧ Gs W G T (w4.setCell ⟨V2.heap.size, 2, none⟩ v') ∧ (∀ (k : Nat) (o : Obj), V2.heap[k]? = some o → (w4.setCell ⟨V2.heap.size, 2, none⟩ v').heap[k]? = some o) ∧ V2.heap.size ≤ (w4.setCell ⟨V2.heap.size, 2, none⟩ v').heap.size := by
  have hr := row_on (World.alloc_heap_new V2 (.cells #[.int .i64 G.room, .int .i64 (Ix.cnt G.T0 G.n), .slice (some ⟨G.Q, 0, none⟩) G.n G.n] 33)) hb
  have bz : Below V2.heap.size V2 w4 := btr (ball _ _) hb
  have hk := Kp.setCell (B := fun b => b = V2.heap.size) (w := w4) (g := V2.heap.size) rfl 2 v'
  have keep : ∀ (k : Nat) (o : Obj), V2.heap[k]? = some o → (w4.setCell ⟨V2.heap.size, 2, none⟩ v').heap[k]? = some o := fun k o hk' => hk.row (row_on hk' bz) (fun e => by have := row_lt hk'; omega)
  refine ⟨row_cell hr 2, frozen_of_row w4 _ 2 _ _ hr, ?_⟩
  have hn := h.rx.pos
  obtain ⟨h0, ⟨e1, e2⟩ | ⟨g, c', cur, e, r1, r2, r3, r4, r5, r6⟩⟩ := ho
  · omega
  · have hgC : g ≠ V2.heap.size := by rintro rfl; rw [hr] at r2; simp at r2
    have hg4 := h.on bz
    have ne : ∀ {k : Nat} {o : Obj}, V2.heap[k]? = some o → ¬ k = V2.heap.size := fun hk' e => by have := row_lt hk'; omega
    obtain ⟨c1, f1⟩ := h.lx.isP'
    refine ⟨g, c', e, ⟨?_, ⟨cur, ?_, fun i hi => ?_⟩, h.rx.pow, h.rx.two, h.rx.one, h.rx.most, h.rx.le⟩, ?_, keep, Nat.le_trans bz.size hk.size⟩
    · rw [heap_setCell_same w4 _ 2 _ 33 _ hr, e]; rfl
    · rw [heap_setCell_other _ _ _ _ (by show g ≠ V2.heap.size; exact hgC)]; exact r2
    · have go : ∀ j, j < G.n * 3 → cur[j]? = cs[j]? := fun j hj => by
        have := congrArg (fun z => z[j]?) r6
        simp only [List.getElem?_take, hj, if_true, Array.getElem?_toList] at this
        exact this
      obtain ⟨a, b, d⟩ := hc3 i hi
      exact ⟨(go _ (by omega)).trans a, (go _ (by omega)).trans b, (go _ (by omega)).trans d⟩
    · refine hg4.keep hk (hg4.lx.kp hk (ne h.lx.row) (ne f1)) h.tx (ne h.rx.row) (ne hc1) (ne h.b0) (ne h.b1) (ne h.rc) (ne h.wc) (fun g' hg' e' => ?_) (fun k hl e' => by have := h.kp.size; omega)
      obtain ⟨_, ⟨ea, _⟩ | ⟨g3, c3, cur3, ea, _, eb, _⟩⟩ := h.ow
      · rw [ea] at hg'; cases hg'
      · rw [ea] at hg'
        injection hg' with hg'
        subst hg'
        exact ne eb e'
theorem kpPut (V : World) (D : Nat) (o : Obj) : Kp (fun b => b = D) V (V.putObj D o) := ⟨rfl, rfl, rfl, by simp, fun g _ h => World.putObj_heap_other h⟩
/-- the three marks are taken. -/
theorem fin3 {W V : World} {X P R Q n room RC D0 D1 D2 : Nat} {T : Ix.Tab} (hp : Pa V X P R Q n room T) (hk : Kp (fun b => b = X ∨ b = P ∨ b = R ∨ b = Q) W V) (hr : V.heap[RC]? = some (.cells #[.bool true] 4 (0, 0))) (d0 : V.heap[D0]? = some (.deferred (some []))) (d1 : V.heap[D1]? = some (.deferred (some []))) (d2 : V.heap[D2]? = some (.deferred (some []))) (l1 : D0 < D1) (l2 : D1 < D2) (w0 : W.heap.size ≤ D0) :
    (V.putObj D2 (.deferred none)).heap[D1]? = some (.deferred (some [])) ∧ ((V.putObj D2 (.deferred none)).putObj D1 (.deferred none)).heap[D0]? = some (.deferred (some [])) ∧ (((V.putObj D2 (.deferred none)).putObj D1 (.deferred none)).putObj D0 (.deferred none)).cell? ⟨RC, 0, none⟩ = some (.bool true) ∧ Pa (((V.putObj D2 (.deferred none)).putObj D1 (.deferred none)).putObj D0 (.deferred none)) X P R Q n room T ∧ Kp (fun b => b = X ∨ b = P ∨ b = R ∨ b = Q) W (((V.putObj D2 (.deferred none)).putObj D1 (.deferred none)).putObj D0 (.deferred none)) := by
  have e1 : (V.putObj D2 (.deferred none)).heap[D1]? = some (.deferred (some [])) := (World.putObj_heap_other (by omega)).trans d1
  have e2 : ((V.putObj D2 (.deferred none)).putObj D1 (.deferred none)).heap[D0]? = some (.deferred (some [])) := (World.putObj_heap_other (by omega)).trans ((World.putObj_heap_other (by omega)).trans d0)
  have k : Kp (fun b => b = D0 ∨ b = D1 ∨ b = D2) V (((V.putObj D2 (.deferred none)).putObj D1 (.deferred none)).putObj D0 (.deferred none)) :=
    (((kpPut V D2 _).mono (fun _ _ h => .inr (.inr h))).trans ((kpPut _ D1 _).mono (fun _ _ h => .inr (.inl h)))).trans ((kpPut _ D0 _).mono (fun _ _ h => .inl h))
  have ne : ∀ {g : Nat} {c : Array Value} {t : TypeId}, V.heap[g]? = some (.cells c t (0, 0)) → ¬ (g = D0 ∨ g = D1 ∨ g = D2) := fun {g c t} h => by
    rintro (e | e | e)
    · subst e; rw [d0] at h; cases h
    · subst e; rw [d1] at h; cases h
    · subst e; rw [d2] at h; cases h
  obtain ⟨c1, f1⟩ := hp.lx.isP'
  obtain ⟨c2, f2⟩ := hp.rx.isP'
  refine ⟨e1, e2, row_cell (k.row hr (ne hr)) 0, hp.kp k (ne hp.lx.row) (ne f1) (ne hp.rx.row) (ne f2), ⟨k.os.trans hk.os, k.tape.trans hk.tape, k.output.trans hk.output, Nat.le_trans hk.size k.size, fun g hg hn => (k.obj g (Nat.lt_of_lt_of_le hg hk.size) (by rintro (e | e | e) <;> omega)).trans (hk.obj g hg hn)⟩⟩
theorem tu_false {G : Gc} {T : Ix.Tab} {i : Nat} {d : List (Int × Int)} (h : (tu G T i d).1 = false) : (tu G T i d).2 = T := by
  unfold tu at *
  split at h
  · rename_i e; rw [if_pos e]
  · rename_i e
    rw [if_neg e]
    unfold trn at *
    cases hi : T i with
    | some x => rw [hi] at h; cases h
    | none =>
      rw [hi] at h
      simp only at h ⊢
      split at h
      · cases h
      · rename_i e2; rw [if_neg e2]
theorem tu_true {G : Gc} {T : Ix.Tab} {i : Nat} {d : List (Int × Int)} (h : (tu G T i d).1 = true) : (tu G T i d).2 = (trn G.n G.room T G.o.ky i).2 := by
  unfold tu at *
  split at h
  · cases h
  · rename_i e; rw [if_neg e]
/-- the cell of the answer is written. -/
theorem fin_rc {W V : World} {X P R Q n room RC : Nat} {T : Ix.Tab} (hp : Pa V X P R Q n room T) (hk : Kp (fun b => b = X ∨ b = P ∨ b = R ∨ b = Q) W V) (hr : V.heap[RC]? = some (.cells #[.bool false] 4 (0, 0))) (hw : W.heap.size ≤ RC) :
    Pa (V.setCell ⟨RC, 0, none⟩ (.bool true)) X P R Q n room T ∧ Kp (fun b => b = X ∨ b = P ∨ b = R ∨ b = Q) W (V.setCell ⟨RC, 0, none⟩ (.bool true)) ∧ (V.setCell ⟨RC, 0, none⟩ (.bool true)).heap[RC]? = some (.cells #[.bool true] 4 (0, 0)) ∧ (∀ (k : Nat), V.heap[k]? = some (.deferred (some [])) → (V.setCell ⟨RC, 0, none⟩ (.bool true)).heap[k]? = some (.deferred (some []))) := by
  have k := Kp.setCell (B := fun b => b = RC) (w := V) (g := RC) rfl 0 (.bool true)
  have ne : ∀ {g : Nat} {c : Array Value} {t : TypeId}, V.heap[g]? = some (.cells c t (0, 0)) → t ≠ 4 → ¬ g = RC := fun {g c t} h h2 e => by
    subst e; rw [h] at hr; injection hr with hr; injection hr with _ hr _; exact h2 hr
  obtain ⟨c1, f1⟩ := hp.lx.isP'
  obtain ⟨c2, f2⟩ := hp.rx.isP'
  refine ⟨hp.kp k (ne hp.lx.row (by decide)) (ne f1 (by decide)) (ne hp.rx.row (by decide)) (ne f2 (by decide)), ⟨k.os.trans hk.os, k.tape.trans hk.tape, k.output.trans hk.output, Nat.le_trans hk.size k.size, fun g hg hn => (k.obj g (Nat.lt_of_lt_of_le hg hk.size) (fun e => by omega)).trans (hk.obj g hg hn)⟩, ?_, fun d hd => k.row hd (fun e => by subst e; rw [hd] at hr; cases hr)⟩
  rw [heap_setCell_same V RC 0 _ 4 _ hr]; rfl
theorem goes_any {W : World} {X P R Q n room : Nat} {T : Ix.Tab} (h : Pa W X P R Q n room T) (o : OpI) (k0 : 0 ≤ o.ky) (k1 : o.ky ≤ 18446744073709551615) :
    Calls Try.prog 29 #[.agg #[.pointer (some ⟨X, 0, none⟩), .pointer (some ⟨R, 0, none⟩)], .agg (oprow o)] W fun e w' => e = .returned (.bool true) ∧ ∃ T', Pa w' X P R Q n room T' ∧ Kp (fun b => b = X ∨ b = P ∨ b = R ∨ b = Q) W w' := by
  obtain ⟨i, hF⟩ := h.fd o.ky
  obtain ⟨W1, hW1⟩ : ∃ W1, ((W.alloc (.cells #[.pointer (some ⟨X, 0, none⟩), .pointer (some ⟨R, 0, none⟩)] 25)).alloc (.cells (oprow o) 40)).alloc (.cells #[.bool false] 4) = W1 := ⟨_, rfl⟩
  have b0 : Below W.heap.size W W1 := by rw [← hW1]; exact btr (ball _ _) (btr (ball _ _) (ball _ _))
  have HKY := hid ((keys_any (h.on b0).rx).mono (R' := fun e w' => ∃ p m c L, e = .returned (.slice p m c) ∧ w'.ownsRow W1.heap.size 74 3 (.slice p m c) m (pvs L) ∧ L.length = m ∧ m ≤ 131072 ∧ L.Perm (us T n) ∧ Ris L ∧ Below W1.heap.size W1 w') (by
    rintro e w' ⟨v, L, rfl, ho, hp, hr, hb⟩
    obtain ⟨p, c, rfl⟩ := ho.form
    refine ⟨p, L.length, c, L, rfl, ho, rfl, ?_, hp, hr, hb⟩
    rw [hp.length_eq, us_len]
    have := h.lx.le; have := h.lx.two; have := h.lx.most; omega))
  have HAL := hid (fun u => allF_any X u)
  have NF := hid nilf
  have HPA := hid h
  have HGF := hid (fun (w1 : World) (p : Option Addr) (m c : Nat) (L : List (Int × Int)) (ho : w1.ownsRow W1.heap.size 74 3 (.slice p m c) m (pvs L)) (hb : Below W1.heap.size W1 w1) => gs_begin h o hW1 ho hb)
  have HW1 := hid hW1
  have HF := hid hF
  have r0 : W1.heap[W.heap.size]? = some (.cells #[.pointer (some ⟨X, 0, none⟩), .pointer (some ⟨R, 0, none⟩)] 25 (0, 0)) := by
    rw [← hW1]; exact row_on (row_on (World.alloc_heap_new _ _) (ball _ _)) (ball _ _)
  have c1 := row_cell r0 1
  simp only [List.getElem?_toArray, List.getElem?_cons_succ, List.getElem?_cons_zero] at c1
  clear h hF b0 hW1 r0
  refine (callsIn_wide (n := 5)).1 ?_
  refine callsIn_of_wp_marks Try.func29 rfl trivial ?_ rfl
  refine wpIn_wide.2 ?_
  simp only [Try.ntmps29, List.size_toArray, List.length_cons, List.length_nil, Nat.reduceAdd, Nat.reduceSub, Array.replicate_succ, Array.replicate_zero, List.push_toArray, List.append_toArray, List.nil_append, List.cons_append]
  unfold oprow at HW1 ⊢
  go_upto_region 1 with fail
  have e0 := HW1.out
  rw [e0]
  clear e0
  go_upto_region 2 with (go_at_call 41; with_reducible refine (HKY.out).mono ?_; rintro e w1 ⟨p, m, c, L, rfl, ho, hlm, hmx, hp, hr, hb⟩; have HGS := hid (HGF.out w1 p m c L ho hb); have HLM := hid hlm; have HMX := hid hmx; have HPE := hid hp; have HRI := hid hr; clear ho hlm hmx hp hr hb HKY; refine Hid.out ?_)
  refine hid ?_
  go_upto_region 2 with fail
  obtain ⟨V0, hV0⟩ : ∃ V0, w1.alloc (.cells #[.slice p m c] 31) = V0 := ⟨_, rfl⟩
  rw [hV0] at HGS ⊢
  clear hV0
  have d0 := row_cell HGS.out.b0 0
  simp only [List.getElem?_toArray, List.getElem?_cons_succ, List.getElem?_cons_zero] at d0
  clear HGF
  go_wp2_with (first | (go_at_call 23; with_reducible refine (HAL.out _).mono ?_; rintro e w3 ⟨rfl, h3⟩; subst w3))
  rw [NF.out]
  go_wp2_with fail
  obtain ⟨U0, hU0⟩ : ∃ U0, (V0.alloc (.cells #[.pointer (some ⟨X, 0, none⟩)] 22)).alloc (.cells #[.int .i64 0] 3) = U0 := ⟨_, rfl⟩
  have HST0 := hid (show Gs W (⟨X, P, R, Q, n, room, W.heap.size, W.heap.size + 1, W.heap.size + 1 + 1, w1.heap.size, m, c, p, L, o, T⟩ : Gc) T U0 ∧ U0.heap[V0.heap.size]? = some (.cells #[.pointer (some ⟨X, 0, none⟩)] 22 (0, 0)) ∧ U0.heap[V0.heap.size + 1]? = some (.cells #[.int .i64 0] 3 (0, 0)) from by
    have bb : Below V0.heap.size V0 U0 := by rw [← hU0]; exact btr (ball _ _) (ball _ _)
    refine ⟨HGS.out.on bb, ?_, ?_⟩
    · rw [← hU0]; exact row_on (World.alloc_heap_new _ _) (ball _ _)
    · have := World.alloc_heap_new (V0.alloc (.cells #[.pointer (some ⟨X, 0, none⟩)] 22)) (.cells #[.int .i64 0] 3)
      rw [← hU0]; simpa using this)
  rw [hU0]
  have HLV := hid (show W.heap.size ≤ V0.heap.size from HGS.out.kp.size)
  obtain ⟨CX, hCXe⟩ : ∃ CX, V0.heap.size = CX := ⟨_, rfl⟩
  rw [hCXe] at HST0 HLV ⊢
  obtain ⟨RD0, hRDe⟩ : ∃ RD0, CX + 1 = RD0 := ⟨_, rfl⟩
  rw [hRDe] at HST0 ⊢
  have HRW := hid (show W.heap.size ≤ RD0 by have := HLV.out; omega)
  clear hU0 hCXe hRDe HGS d0
  have r0 := row_cell HST0.out.2.2 0
  simp only [List.getElem?_toArray, List.getElem?_cons_succ, List.getElem?_cons_zero] at r0
  refine wp_loop_rounds 3 ?_
  rw [rounds_succ]
  go_wp2_with fail
  have HN0 := hid (show Gs W (⟨X, P, R, Q, n, room, W.heap.size, W.heap.size + 1, W.heap.size + 1 + 1, w1.heap.size, m, c, p, L, o, T⟩ : Gc) T (U0.alloc (.cells #[.int .i64 0] 3)) ∧ (U0.alloc (.cells #[.int .i64 0] 3)).heap[CX]? = some (.cells #[.pointer (some ⟨X, 0, none⟩)] 22 (0, 0)) ∧ (U0.alloc (.cells #[.int .i64 0] 3)).heap[RD0]? = some (.cells #[.int .i64 0] 3 (0, 0)) ∧ (U0.alloc (.cells #[.int .i64 0] 3)).heap[U0.heap.size]? = some (.cells #[.int .i64 0] 3 (0, 0)) ∧ U0.heap.size ≠ RD0 ∧ W.heap.size ≤ U0.heap.size from by
    have hb := ball U0 (.cells #[.int .i64 0] 3)
    have hl := row_lt HST0.out.2.2
    exact ⟨HST0.out.1.on hb, row_on HST0.out.2.1 hb, row_on HST0.out.2.2 hb, World.alloc_heap_new _ _, by omega, HST0.out.1.kp.size⟩)
  obtain ⟨Ub0, hUb0⟩ : ∃ Ub, U0.alloc (.cells #[.int .i64 0] 3) = Ub := ⟨_, rfl⟩
  obtain ⟨N0, hNe0⟩ : ∃ N, U0.heap.size = N := ⟨_, rfl⟩
  rw [hUb0, hNe0] at HN0 ⊢
  clear hUb0 hNe0 r0
  refine (wpIn_wide (n := 5)).1 ?_
  refine gR1 (W0 := W) (⟨X, P, R, Q, n, room, W.heap.size, W.heap.size + 1, W.heap.size + 1 + 1, w1.heap.size, m, c, p, L, o, T⟩ : Gc) T N0 RD0 CX 0 [] (has := by rfl) (hc := by rfl) _ _ _ _ _ _ _ _ _ _ _ _ _ _ _ _ _ _ _ _ _ _ _ _ _ _ _ _ _ _ _ _ _ _ _ _ _ _ _ _ _ _ _ _ _ _ _ _ _ _ _ _ _ _ _ _ _ _ _ _ _ _ _ _ _ _ _ _ _ _ _ _ _ _ _ _ _ _ _ _ _ _ _ _ _ _ _ _ _ _ _ _ _ _ _ _ _ _ _ _ _ _ _ _ _ _ _ _ _ _ _ _ _ _ _ _ _ _ _ _ _ _ _ _ _ _ _ _ _ _ _ _ _ _ _ _ _ _ _ _ _ _ _ _ _ _ _ _ _ HN0.out.1 HLM.out HMX.out HPE.out HRI.out HN0.out.2.2.2.1 HN0.out.2.2.1 HN0.out.2.2.2.2.1 HN0.out.2.2.2.2.2 HN0.out.2.1 ?_
  intro D0 X0 x0 hD hG hN hR hC hx hKd hDf
  refine twice ?_ (fun h => h)
  simp only [Exit.inBlock, Exit.then]
  have HX0 := hid (And.intro hG (And.intro hN (And.intro hR (And.intro hC (And.intro hx (And.intro hDf (Nat.le_trans HN0.out.1.kp.size hD)))))))
  have HKD0 := hid hKd
  clear hD hG hN hR hC hx hDf hKd HN0 HST0
  have cN0 := row_cell HX0.out.2.1 0
  have cR0 := row_cell HX0.out.2.2.1 0
  have cW0 := row_cell HX0.out.1.wc 0
  have cO0 := row_cell HX0.out.1.b1 4
  simp only [oprow, List.getElem?_toArray, List.getElem?_cons_succ, List.getElem?_cons_zero] at cN0 cR0 cW0 cO0
  go_upto_region 16 with fail
  refine reg_any2 [65, 66, 67, 68, 69, 70, 71, 72, 73, 74, 75, 76, 77, 78, 79] (fun t U => t 79 = .bool false ∧ U = X0) ?_ ?_
  · by_cases hxm : x0 = (m : Int)
    · have e1 : (x0 != (m : Int)) = false := by simpa using hxm
      clear hxm
      go_wp2
      first | kernel_rfl | exact ⟨by kernel_rfl, by rfl, rfl⟩ | exact ⟨by kernel_rfl, by rfl⟩ | (refine ⟨by kernel_rfl, ?_⟩; simp)
    · have e1 : (x0 != (m : Int)) = true := by simpa using hxm
      have hq : x0 = o.nn := by
        rcases HX0.out.2.2.2.2.1 with q | q
        · exact absurd q hxm
        · exact q.2
      have e2 : (x0 == o.nn) = true := by simpa using hq
      clear hq hxm
      go_wp2
      first | kernel_rfl | exact ⟨by kernel_rfl, by rfl, rfl⟩ | exact ⟨by kernel_rfl, by rfl⟩ | (refine ⟨by kernel_rfl, ?_⟩; simp)
  rintro t0 U ⟨et, hUe⟩
  rw [hUe]
  clear hUe U
  simp only [puts, List.foldl_cons, List.foldl_nil, Act.put, List.setIfInBounds_toArray, List.set_cons_zero, List.set_cons_succ]
  rw [et]
  clear et
  go_wp2_with fail
  have HST1 := hid (show Gs W (⟨X, P, R, Q, n, room, W.heap.size, W.heap.size + 1, W.heap.size + 1 + 1, w1.heap.size, m, c, p, L, o, T⟩ : Gc) T (X0.alloc (.cells #[.int .i64 1] 3)) ∧ (X0.alloc (.cells #[.int .i64 1] 3)).heap[CX]? = some (.cells #[.pointer (some ⟨X, 0, none⟩)] 22 (0, 0)) ∧ (X0.alloc (.cells #[.int .i64 1] 3)).heap[X0.heap.size]? = some (.cells #[.int .i64 1] 3 (0, 0)) from
    ⟨HX0.out.1.on (ball _ _), row_on HX0.out.2.2.2.1 (ball _ _), World.alloc_heap_new _ _⟩)
  have HDD0 := hid (show (X0.alloc (.cells #[.int .i64 1] 3)).heap[D0]? = some (.deferred (some [])) ∧ W.heap.size ≤ D0 from ⟨by rw [Below.heap_alloc _ _ _ (row_lt HX0.out.2.2.2.2.2.1)]; exact HX0.out.2.2.2.2.2.1, HX0.out.2.2.2.2.2.2⟩)
  obtain ⟨U1, hUe1⟩ : ∃ U, X0.alloc (.cells #[.int .i64 1] 3) = U := ⟨_, rfl⟩
  obtain ⟨RD1, hRe1⟩ : ∃ U, X0.heap.size = U := ⟨_, rfl⟩
  rw [hUe1, hRe1] at HST1 ⊢
  rw [hUe1] at HDD0
  clear hUe1 hRe1 cN0 cR0 cW0 cO0 HX0
  have r1 := row_cell HST1.out.2.2 0
  simp only [List.getElem?_toArray, List.getElem?_cons_succ, List.getElem?_cons_zero] at r1
  rw [rounds_succ]
  go_wp2_with fail
  have HN1 := hid (show Gs W (⟨X, P, R, Q, n, room, W.heap.size, W.heap.size + 1, W.heap.size + 1 + 1, w1.heap.size, m, c, p, L, o, T⟩ : Gc) T (U1.alloc (.cells #[.int .i64 0] 3)) ∧ (U1.alloc (.cells #[.int .i64 0] 3)).heap[CX]? = some (.cells #[.pointer (some ⟨X, 0, none⟩)] 22 (0, 0)) ∧ (U1.alloc (.cells #[.int .i64 0] 3)).heap[RD1]? = some (.cells #[.int .i64 1] 3 (0, 0)) ∧ (U1.alloc (.cells #[.int .i64 0] 3)).heap[U1.heap.size]? = some (.cells #[.int .i64 0] 3 (0, 0)) ∧ U1.heap.size ≠ RD1 ∧ W.heap.size ≤ U1.heap.size from by
    have hb := ball U1 (.cells #[.int .i64 0] 3)
    have hl := row_lt HST1.out.2.2
    exact ⟨HST1.out.1.on hb, row_on HST1.out.2.1 hb, row_on HST1.out.2.2 hb, World.alloc_heap_new _ _, by omega, HST1.out.1.kp.size⟩)
  obtain ⟨Ub1, hUb1⟩ : ∃ Ub, U1.alloc (.cells #[.int .i64 0] 3) = Ub := ⟨_, rfl⟩
  obtain ⟨N1, hNe1⟩ : ∃ N, U1.heap.size = N := ⟨_, rfl⟩
  rw [hUb1, hNe1] at HN1 ⊢
  have HD0b := hid (show Ub1.heap[D0]? = some (.deferred (some [])) from by rw [← hUb1, Below.heap_alloc _ _ _ (row_lt HDD0.out.1)]; exact HDD0.out.1)
  clear hUb1 hNe1 r1
  refine (wpIn_wide (n := 5)).1 ?_
  refine gR1 (W0 := W) (⟨X, P, R, Q, n, room, W.heap.size, W.heap.size + 1, W.heap.size + 1 + 1, w1.heap.size, m, c, p, L, o, T⟩ : Gc) T N1 RD1 CX 1 [{ target := .collected D0, args := #[] }] (has := by rfl) (hc := by rfl) _ _ _ _ _ _ _ _ _ _ _ _ _ _ _ _ _ _ _ _ _ _ _ _ _ _ _ _ _ _ _ _ _ _ _ _ _ _ _ _ _ _ _ _ _ _ _ _ _ _ _ _ _ _ _ _ _ _ _ _ _ _ _ _ _ _ _ _ _ _ _ _ _ _ _ _ _ _ _ _ _ _ _ _ _ _ _ _ _ _ _ _ _ _ _ _ _ _ _ _ _ _ _ _ _ _ _ _ _ _ _ _ _ _ _ _ _ _ _ _ _ _ _ _ _ _ _ _ _ _ _ _ _ _ _ _ _ _ _ _ _ _ _ _ _ _ _ _ _ HN1.out.1 HLM.out HMX.out HPE.out HRI.out HN1.out.2.2.2.1 HN1.out.2.2.1 HN1.out.2.2.2.2.1 HN1.out.2.2.2.2.2 HN1.out.2.1 ?_
  intro D1 X1 x1 hD hG hN hR hC hx hKd hDf
  refine twice ?_ (fun h => h)
  simp only [Exit.inBlock, Exit.then]
  have HX1 := hid (And.intro hG (And.intro hN (And.intro hR (And.intro hC (And.intro hx (And.intro hDf (Nat.le_trans HN1.out.1.kp.size hD)))))))
  have HKD1 := hid hKd
  have HLT1 := hid (show D0 < D1 from Nat.lt_of_lt_of_le (row_lt HD0b.out) hD)
  clear hD hG hN hR hC hx hDf hKd HN1 HST1
  have cN1 := row_cell HX1.out.2.1 0
  have cR1 := row_cell HX1.out.2.2.1 0
  have cW1 := row_cell HX1.out.1.wc 0
  have cO1 := row_cell HX1.out.1.b1 4
  simp only [oprow, List.getElem?_toArray, List.getElem?_cons_succ, List.getElem?_cons_zero] at cN1 cR1 cW1 cO1
  go_upto_region 16 with fail
  refine reg_any2 [65, 66, 67, 68, 69, 70, 71, 72, 73, 74, 75, 76, 77, 78, 79] (fun t U => t 79 = .bool false ∧ U = X1) ?_ ?_
  · by_cases hxm : x1 = (m : Int)
    · have e1 : (x1 != (m : Int)) = false := by simpa using hxm
      clear hxm
      go_wp2
      first | kernel_rfl | exact ⟨by kernel_rfl, by rfl, rfl⟩ | exact ⟨by kernel_rfl, by rfl⟩ | (refine ⟨by kernel_rfl, ?_⟩; simp)
    · exact absurd HX1.out.2.2.2.2.1 (by
        rintro (q | q)
        · exact hxm q
        · exact absurd q.1 (by decide))
  rintro t1 U ⟨et, hUe⟩
  rw [hUe]
  clear hUe U
  simp only [puts, List.foldl_cons, List.foldl_nil, Act.put, List.setIfInBounds_toArray, List.set_cons_zero, List.set_cons_succ]
  rw [et]
  clear et
  go_wp2_with fail
  have HST2 := hid (show Gs W (⟨X, P, R, Q, n, room, W.heap.size, W.heap.size + 1, W.heap.size + 1 + 1, w1.heap.size, m, c, p, L, o, T⟩ : Gc) T (X1.alloc (.cells #[.int .i64 2] 3)) ∧ (X1.alloc (.cells #[.int .i64 2] 3)).heap[CX]? = some (.cells #[.pointer (some ⟨X, 0, none⟩)] 22 (0, 0)) ∧ (X1.alloc (.cells #[.int .i64 2] 3)).heap[X1.heap.size]? = some (.cells #[.int .i64 2] 3 (0, 0)) from
    ⟨HX1.out.1.on (ball _ _), row_on HX1.out.2.2.2.1 (ball _ _), World.alloc_heap_new _ _⟩)
  have HDD1 := hid (show (X1.alloc (.cells #[.int .i64 2] 3)).heap[D1]? = some (.deferred (some [])) ∧ W.heap.size ≤ D1 from ⟨by rw [Below.heap_alloc _ _ _ (row_lt HX1.out.2.2.2.2.2.1)]; exact HX1.out.2.2.2.2.2.1, HX1.out.2.2.2.2.2.2⟩)
  have HDE0 := hid (show (X1.alloc (.cells #[.int .i64 2] 3)).heap[D0]? = some (.deferred (some [])) ∧ W.heap.size ≤ D0 from ⟨by rw [Below.heap_alloc _ _ _ (row_lt (HKD1.out _ _ HD0b.out rfl))]; exact HKD1.out _ _ HD0b.out rfl, HDD0.out.2⟩)
  obtain ⟨U2, hUe2⟩ : ∃ U, X1.alloc (.cells #[.int .i64 2] 3) = U := ⟨_, rfl⟩
  obtain ⟨RD2, hRe2⟩ : ∃ U, X1.heap.size = U := ⟨_, rfl⟩
  rw [hUe2, hRe2] at HST2 ⊢
  rw [hUe2] at HDD1 HDE0
  clear hUe2 hRe2 cN1 cR1 cW1 cO1 HX1 HKD1 HKD0 HD0b HDD0
  have r2 := row_cell HST2.out.2.2 0
  simp only [List.getElem?_toArray, List.getElem?_cons_succ, List.getElem?_cons_zero] at r2
  rw [rounds_succ]
  go_upto_region 22 with fail
  clear r2
  obtain ⟨V2, hV2⟩ : ∃ V2, (U2.alloc (.cells #[.int .i64 0] 3)).alloc (.cells #[.bool false] 4) = V2 := ⟨_, rfl⟩
  have HV2 := hid (show Gs W (⟨X, P, R, Q, n, room, W.heap.size, W.heap.size + 1, W.heap.size + 1 + 1, w1.heap.size, m, c, p, L, o, T⟩ : Gc) T V2 ∧ V2.heap[CX]? = some (.cells #[.pointer (some ⟨X, 0, none⟩)] 22 (0, 0)) ∧ V2.heap[U2.heap.size]? = some (.cells #[.int .i64 0] 3 (0, 0)) ∧ V2.heap[U2.heap.size + 1]? = some (.cells #[.bool false] 4 (0, 0)) ∧ V2.heap[D0]? = some (.deferred (some [])) ∧ V2.heap[D1]? = some (.deferred (some [])) ∧ U2.heap.size + 1 ≠ W.heap.size + 1 + 1 ∧ W.heap.size ≤ U2.heap.size from by
    have bb : Below U2.heap.size U2 V2 := by rw [← hV2]; exact btr (ball _ _) (ball _ _)
    have l1 := row_lt HST2.out.1.rc
    simp only at l1
    refine ⟨HST2.out.1.on bb, row_on HST2.out.2.1 bb, ?_, ?_, row_on HDE0.out.1 bb, row_on HDD1.out.1 bb, by omega, HST2.out.1.kp.size⟩
    · rw [← hV2]; exact row_on (World.alloc_heap_new _ _) (ball _ _)
    · have := World.alloc_heap_new (U2.alloc (.cells #[.int .i64 0] 3)) (.cells #[.bool false] 4)
      rw [← hV2]; simpa using this)
  rw [hV2]
  obtain ⟨N3, hN3⟩ : ∃ N3, U2.heap.size = N3 := ⟨_, rfl⟩
  rw [hN3] at HV2 ⊢
  obtain ⟨TU, hTU⟩ : ∃ TU, N3 + 1 = TU := ⟨_, rfl⟩
  rw [hTU] at HV2 ⊢
  have HWT := hid (show W.heap.size ≤ TU by have := HV2.out.2.2.2.2.2.2.2; omega)
  clear hV2 hN3 hTU HST2
  have q1 := row_cell HV2.out.1.b0 1
  obtain ⟨y0, y1, y2⟩ := HV2.out.1.rx.cells
  simp only [List.getElem?_toArray, List.getElem?_cons_succ, List.getElem?_cons_zero] at q1 y0 y1 y2
  obtain ⟨cs, hcs1, hcs2, hcs3⟩ := HV2.out.1.rx.pl
  have HCS := hid (And.intro hcs1 (And.intro hcs2 hcs3))
  have hone : ∀ v ∈ cs.toList, v.oneCell' = true := fun v hv => by
    obtain ⟨j, hj, rfl⟩ := List.getElem_of_mem hv
    have hj' : j < 3 * n := by rw [Array.length_toList, hcs2] at hj; exact hj
    obtain ⟨a, b, d⟩ := hcs3 (j / 3) (by show j / 3 < n; omega)
    have : j = j / 3 * 3 ∨ j = j / 3 * 3 + 1 ∨ j = j / 3 * 3 + 2 := by omega
    rw [Array.getElem_toList]
    rcases this with e | e | e
    · have h2 : cs[j]? = some (.bool (eU (T (j / 3)))) := by rw [e]; simpa [show (j / 3 * 3) / 3 = j / 3 by omega] using a
      rw [Array.getElem?_eq_getElem (by omega)] at h2; injection h2 with h2; rw [h2]; rfl
    · have h2 : cs[j]? = some (.int .u64 (eK (T (j / 3)))) := by rw [e]; simpa [show (j / 3 * 3 + 1) / 3 = j / 3 by omega] using b
      rw [Array.getElem?_eq_getElem (by omega)] at h2; injection h2 with h2; rw [h2]; rfl
    · have h2 : cs[j]? = some (.int .i64 (eV (T (j / 3)))) := by rw [e]; simpa [show (j / 3 * 3 + 2) / 3 = j / 3 by omega] using d
      rw [Array.getElem?_eq_getElem (by omega)] at h2; injection h2 with h2; rw [h2]; rfl
  have HONE := hid hone
  clear hcs1 hcs2 hcs3 hone
  go_upto_region 23 with fail
  have hn2 := HPA.out.lx.pos
  have hnm := HPA.out.lx.most
  obtain ⟨V3, hV3⟩ : ∃ V3, V2.alloc (.cells #[.int .i64 room, .int .i64 (Ix.cnt T n), .slice (some ⟨Q, 0, none⟩) n n] 33) = V3 := ⟨_, rfl⟩
  have bV3 : Below V2.heap.size V2 V3 := by rw [← hV3]; exact ball _ _
  have HB3 := hid bV3
  have HCP := hid (fun (w4 : World) (v' : Value) (base : Nat) (hb : Below V3.heap.size V3 w4) (ho : w4.ownsRow base 74 3 v' n cs.toList) => cp_any HV2.out.1 HCS.out.1 HCS.out.2.1 HCS.out.2.2 (w4 := w4) (v' := v') (base := base) (by rw [show (V2.alloc (.cells #[.int .i64 room, .int .i64 (Ix.cnt T n), .slice (some ⟨Q, 0, none⟩) n n] 33)) = V3 from hV3]; exact hb) ho)
  have hV3' := hV3
  rw [hV3]
  have q1 := row_cell (row_on (row_on HV2.out.1.b0 bV3) (ball V3 (.cells #[] 74))) 1
  have y2 := row_cell (row_on (row_on HV2.out.1.rx.row bV3) (ball V3 (.cells #[] 74))) 2
  simp only [List.getElem?_toArray, List.getElem?_cons_succ, List.getElem?_cons_zero] at q1 y2
  obtain ⟨i0, hi, hz0, hz1, hz2⟩ := info_parts info74all
  have HI := hid (And.intro hi (And.intro hz0 (And.intro hz1 hz2)))
  have HOE := hid (show (V3.alloc (.cells #[] 74)).ownsRow V3.heap.size 74 3 (.slice (some ⟨V3.heap.size, 0, none⟩) 0 0) 0 [] from ⟨rfl, .inr ⟨V3.heap.size, 0, #[], rfl, Nat.le_refl _, World.alloc_heap_new _ _, Nat.le_refl _, Nat.zero_le _, rfl, rfl⟩⟩)
  have HCL := hid (show ∀ j u, cs.toList[j]? = some u → (V3.alloc (.cells #[] 74)).cell? ((⟨Q, 0, none⟩ : Addr).add j) = some u from fun j u hu => by
    have e0 : (⟨Q, 0, none⟩ : Addr).add j = ⟨Q, 0 + j, none⟩ := by unfold Addr.add; split <;> simp_all
    rw [e0, Nat.zero_add, row_cell (row_on (row_on HCS.out.1 HB3.out) (ball _ _))]
    rw [Array.getElem?_toList] at hu
    exact hu)
  have HLL := hid (show cs.toList.length = n * 3 by rw [Array.length_toList, HCS.out.2.1]; exact Nat.mul_comm _ _)
  clear hi hz0 hz1 hz2 hV3 hV3' bV3 y0 y1
  go_upto_region 24 with (at_builtin; refine wpList_append_own _ (by rfl) (.tmp 85) (.tmp 90) 31 (by rfl) V3.heap.size 74 i0 _ 3 24 Try.underlying31 HI.out.1 HI.out.2.1 HI.out.2.2.1 HI.out.2.2.2 rfl (by decide) _ 0 [] (by rfl) HOE.out ⟨Q, 0, none⟩ n n cs.toList (by rfl) HLL.out HCL.out HONE.out (by unfold maxLen; omega) (by omega) (ball V3 _).size ?_; intro v' w4 ho4 hg4 _; obtain ⟨f1, f2, g2, cap2, fe, f3, f4, f5, f6⟩ := HCP.out w4 v' V3.heap.size ((ball V3 (.cells #[] 74)).grown hg4 (ball V3 _).size (fun b hb => (World.ownsRow.lt HOE.out b hb).1)) (by rw [Nat.zero_add, List.nil_append] at ho4; exact ho4); subst fe; have HP := hid (And.intro f3 (And.intro f4 (And.intro f5 f6))); clear f3 f4 f5 f6 ho4 hg4 HCP)
  obtain ⟨V5, hV5⟩ : ∃ V5, w4.setCell ⟨V2.heap.size, 2, none⟩ (.slice (some ⟨g2, 0, none⟩) n cap2) = V5 := ⟨_, rfl⟩
  rw [hV5] at HP ⊢
  obtain ⟨CC, hCC⟩ : ∃ CC, V2.heap.size = CC := ⟨_, rfl⟩
  rw [hCC] at HP ⊢
  clear hV5 hCC f1 f2 q1 y2 hn2 hnm HOE HCL HLL HI HB3 HONE HCS
  go_wp2_with fail
  refine (wpIn_wide (n := 5)).1 ?_
  refine gR2 (W0 := W) (⟨X, P, R, Q, n, room, W.heap.size, W.heap.size + 1, W.heap.size + 1 + 1, w1.heap.size, m, c, p, L, o, T⟩ : Gc) T i N3 TU CC g2 cap2 CX [{ target := .collected D1, args := #[] }, { target := .collected D0, args := #[] }] (has := by rfl) (hc := by rfl) _ _ _ _ _ _ _ _ _ _ _ _ _ _ _ _ _ _ _ _ _ _ _ _ _ _ _ _ _ _ _ _ _ _ _ _ _ _ _ _ _ _ _ _ _ _ _ _ _ _ _ _ _ _ _ _ _ _ _ _ _ _ _ _ _ _ _ _ _ _ _ _ _ _ _ _ _ _ _ _ _ _ _ _ _ _ _ _ _ _ _ _ _ _ _ _ _ _ _ _ _ _ _ _ _ _ _ _ _ _ _ _ _ _ _ _ _ _ _ _ _ _ _ _ _ _ _ _ _ _ _ _ _ _ _ _ _ _ _ _ _ _ _ _ _ _ _ _ HP.out.2.1 HLM.out HMX.out HPE.out HRI.out (HP.out.2.2.1 _ _ HV2.out.2.2.1) (HP.out.2.2.1 _ _ HV2.out.2.2.2.1) HV2.out.2.2.2.2.2.2.1 HV2.out.2.2.2.2.2.2.2 HWT.out HF.out k0 k1 HP.out.1 (HP.out.2.2.1 _ _ HV2.out.2.1) ?_
  intro D2 X2 hD hG hN hU hRg hKd hDf
  simp only [Exit.inBlock, Exit.then]
  have HDS := hid (show X2.heap[D0]? = some (.deferred (some [])) ∧ X2.heap[D1]? = some (.deferred (some [])) ∧ X2.heap[D2]? = some (.deferred (some [])) ∧ D0 < D1 ∧ D1 < D2 ∧ W.heap.size ≤ D0 from
    ⟨hKd _ _ (HP.out.2.2.1 _ _ HV2.out.2.2.2.2.1) rfl, hKd _ _ (HP.out.2.2.1 _ _ HV2.out.2.2.2.2.2.1) rfl, hDf, HLT1.out, Nat.lt_of_lt_of_le (row_lt (HP.out.2.2.1 _ _ HV2.out.2.2.2.2.2.1)) hD, HDE0.out.2⟩)
  have HG2 := hid hG
  have HRG := hid hRg
  have HN3 := hid hN
  have HU3 := hid hU
  have hmm : ((m : Int) == (m : Int)) = true := by simp
  have HRC := hid (show W.heap.size ≤ W.heap.size + 1 + 1 by omega)
  have cN := row_cell hN 0
  have cU := row_cell hU 0
  have cW := row_cell hG.wc 0
  have cC := row_cell hG.rc 0
  have fC := frozen_of_row X2 _ 0 _ _ hG.rc
  have cK := row_cell hG.b1 2
  have cP := row_cell hG.b0 1
  simp only [oprow, List.getElem?_toArray, List.getElem?_cons_succ, List.getElem?_cons_zero] at cN cU cW cC cK cP fC
  clear hD hG hN hU hRg hKd hDf HP HV2 HDE0 HDD1 HLT1
  obtain ⟨b, hb⟩ : ∃ b, (tu (⟨X, P, R, Q, n, room, W.heap.size, W.heap.size + 1, W.heap.size + 1 + 1, w1.heap.size, m, c, p, L, o, T⟩ : Gc) T i L).1 = b := ⟨_, rfl⟩
  rw [hb] at cU
  cases b with
  | false =>
    have HFN := hid (show Pa (X2.setCell ⟨W.heap.size + 1 + 1, 0, none⟩ (.bool true)) X P R Q n room T ∧ Kp (fun b => b = X ∨ b = P ∨ b = R ∨ b = Q) W (X2.setCell ⟨W.heap.size + 1 + 1, 0, none⟩ (.bool true)) ∧ (X2.setCell ⟨W.heap.size + 1 + 1, 0, none⟩ (.bool true)).heap[W.heap.size + 1 + 1]? = some (.cells #[.bool true] 4 (0, 0)) ∧ (X2.setCell ⟨W.heap.size + 1 + 1, 0, none⟩ (.bool true)).heap[D0]? = some (.deferred (some [])) ∧ (X2.setCell ⟨W.heap.size + 1 + 1, 0, none⟩ (.bool true)).heap[D2]? = some (.deferred (some [])) ∧ (X2.setCell ⟨W.heap.size + 1 + 1, 0, none⟩ (.bool true)).heap[D1]? = some (.deferred (some [])) from by
      have e := tu_false hb
      have hlx := HG2.out.lx
      have htx := HG2.out.tx
      rw [e] at hlx htx
      obtain ⟨a1, a2, a3, a4⟩ := fin_rc (Pa.mk hlx HG2.out.rx htx) HG2.out.kp HG2.out.rc HRC.out
      exact ⟨a1, a2, a3, a4 _ HDS.out.1, a4 _ HDS.out.2.2.1, a4 _ HDS.out.2.1⟩)
    have HF3 := hid (fin3 HFN.out.1 HFN.out.2.1 HFN.out.2.2.1 HFN.out.2.2.2.1 HFN.out.2.2.2.2.2 HFN.out.2.2.2.2.1 HDS.out.2.2.2.1 HDS.out.2.2.2.2.1 HDS.out.2.2.2.2.2)
    clear hb cK cP HG2 HRG HN3 HU3
    go_wp2_with fail
    refine ⟨by simp, .inl ⟨_, _, rfl, run_takeDeferred HFN.out.2.2.2.2.1, ?_⟩⟩
    refine ⟨by simp, .inl ⟨_, _, rfl, run_takeDeferred HF3.out.1, ?_⟩⟩
    refine ⟨by simp, .inl ⟨_, _, rfl, run_takeDeferred HF3.out.2.1, ?_⟩⟩
    have h3 := HF3.out.2.2.1
    refine ⟨.bool true, ?_, rfl, _, HF3.out.2.2.2.1, HF3.out.2.2.2.2⟩
    simp [results, Try.f29, go_sem, h3]
  | true =>
    have e := tu_true hb
    have HLX := hid (show Lx X2 X P n room (trn n room T o.ky i).2 from by have h := HG2.out.lx; rw [e] at h; exact h)
    have HTX := hid (show Ix.Tidy n (hm n) (trn n room T o.ky i).2 from by have h := HG2.out.tx; rw [e] at h; exact h)
    have HGE := hid (gget_u HRG.out HF.out)
    simp only at HGE
    have HDO := hid (show ∀ w6, Rx w6 R Q n room (trn n room T o.ky i).2 → Kp (fun b => b = R ∨ b = Q) X2 w6 → Pa w6 X P R Q n room (trn n room T o.ky i).2 ∧ w6.heap[N3]? = some (.cells #[.int .i64 (m : Nat)] 3 (0, 0)) ∧ w6.heap[w1.heap.size]? = some (.cells #[.slice p m c] 31 (0, 0)) ∧ w6.heap[W.heap.size]? = some (.cells #[.pointer (some ⟨X, 0, none⟩), .pointer (some ⟨R, 0, none⟩)] 25 (0, 0)) ∧ w6.heap[W.heap.size + 1 + 1]? = some (.cells #[.bool false] 4 (0, 0)) ∧ (w6.heap[D0]? = some (.deferred (some [])) ∧ w6.heap[D1]? = some (.deferred (some [])) ∧ w6.heap[D2]? = some (.deferred (some []))) ∧ Kp (fun b => b = X ∨ b = P ∨ b = R ∨ b = Q) W w6 from fun w6 hx hk => by
      obtain ⟨c2, e2⟩ := HG2.out.rx.isP'
      have ne : ∀ {g : Nat} {c' : Array Value} {t : TypeId}, X2.heap[g]? = some (.cells c' t (0, 0)) → t ≠ 33 → t ≠ 74 → ¬ (g = R ∨ g = Q) := fun {g c' t} h1 h2 h3 => by
        rintro (e | e)
        · subst e; rw [HG2.out.rx.row] at h1; injection h1 with h1; injection h1 with _ h1 _; exact h2 h1.symm
        · subst e; rw [e2] at h1; injection h1 with h1; injection h1 with _ h1 _; exact h3 h1.symm
      have nd : ∀ {g : Nat}, X2.heap[g]? = some (.deferred (some [])) → ¬ (g = R ∨ g = Q) := fun {g} h1 => by
        rintro (e | e)
        · subst e; rw [HG2.out.rx.row] at h1; cases h1
        · subst e; rw [e2] at h1; cases h1
      obtain ⟨c1, e1⟩ := HLX.out.isP'
      refine ⟨⟨HLX.out.kp hk (ne HLX.out.row (by decide) (by decide)) (ne e1 (by decide) (by decide)), hx, HTX.out⟩, hk.row HN3.out (ne HN3.out (by decide) (by decide)), hk.row HG2.out.wc (ne HG2.out.wc (by decide) (by decide)), hk.row HG2.out.b0 (ne HG2.out.b0 (by decide) (by decide)), hk.row HG2.out.rc (ne HG2.out.rc (by decide) (by decide)), ⟨hk.row HDS.out.1 (nd HDS.out.1), hk.row HDS.out.2.1 (nd HDS.out.2.1), hk.row HDS.out.2.2.1 (nd HDS.out.2.2.1)⟩, ?_⟩
      exact HG2.out.kp.trans (hk.mono (fun _ _ h => by rcases h with h | h; exact .inr (.inr (.inl h)); exact .inr (.inr (.inr h)))))
    have HPLC := hid (show ∀ w6, Pa w6 X P R Q n room (trn n room T o.ky i).2 → Calls Try.prog 16 #[.agg #[.pointer (some ⟨X, 0, none⟩), .pointer (some ⟨R, 0, none⟩)]] w6 fun e w' => e = .returned (.bool true) ∧ Below w6.heap.size w6 w' from fun w6 h => placed_any h)
    have HFI := hid (show ∀ w6 w7, (Rx w6 R Q n room (trn n room T o.ky i).2 ∧ Kp (fun b => b = R ∨ b = Q) X2 w6) → Below w6.heap.size w6 w7 → (w7.cell? ⟨W.heap.size + 1 + 1, 0, none⟩ = some (.bool false) ∧ w7.frozen? ⟨W.heap.size + 1 + 1, 0, none⟩ = false) ∧ Pa (w7.setCell ⟨W.heap.size + 1 + 1, 0, none⟩ (.bool true)) X P R Q n room (trn n room T o.ky i).2 ∧ Kp (fun b => b = X ∨ b = P ∨ b = R ∨ b = Q) W (w7.setCell ⟨W.heap.size + 1 + 1, 0, none⟩ (.bool true)) ∧ (w7.setCell ⟨W.heap.size + 1 + 1, 0, none⟩ (.bool true)).heap[W.heap.size + 1 + 1]? = some (.cells #[.bool true] 4 (0, 0)) ∧ (w7.setCell ⟨W.heap.size + 1 + 1, 0, none⟩ (.bool true)).heap[D0]? = some (.deferred (some [])) ∧ (w7.setCell ⟨W.heap.size + 1 + 1, 0, none⟩ (.bool true)).heap[D2]? = some (.deferred (some [])) ∧ (w7.setCell ⟨W.heap.size + 1 + 1, 0, none⟩ (.bool true)).heap[D1]? = some (.deferred (some [])) from fun w6 w7 h6 h7 => by
      obtain ⟨p1, p2, p3, p4, p5, ⟨q0, q1, q2⟩, p6⟩ := HDO.out w6 h6.1 h6.2
      have r5 := row_on p5 h7
      obtain ⟨a1, a2, a3, a4⟩ := fin_rc (p1.on h7) (p6.trans (Kp.ofBelow _ h7)) r5 HRC.out
      exact ⟨⟨row_cell r5 0, frozen_of_row w7 _ 0 _ _ r5⟩, a1, a2, a3, a4 _ (row_on q0 h7), a4 _ (row_on q2 h7), a4 _ (row_on q1 h7)⟩)
    have HCE := hid (show ∀ w5, Kp (fun _ => False) X2 w5 → w5.cell? ⟨W.heap.size, 1, none⟩ = some (.pointer (some ⟨R, 0, none⟩)) ∧ w5.cell? ⟨W.heap.size + 1, 2, none⟩ = some (.int .u64 o.ky) ∧ Rx w5 R Q n room T from fun w5 h5 => by
      have a := row_cell (h5.row HG2.out.b0 (fun h => h)) 1
      have b := row_cell (h5.row HG2.out.b1 (fun h => h)) 2
      exact ⟨by simpa using a, by simpa [oprow] using b, HG2.out.rx.kp h5 (fun h => h) (fun h => h)⟩)
    have HTD := hid HPA.out.td
    clear hb e cN cW cC fC cP
    cases hi : T i with
    | some x =>
      have e2 := trn_some (n := n) (room := room) (k := o.ky) hi
      rw [hi] at HGE
      simp only [eU, eV] at HGE
      have HDR := hid (show ∀ w5, Kp (fun _ => False) X2 w5 → Calls Try.prog 28 #[.pointer (some ⟨R, 0, none⟩), .int .u64 o.ky] w5 fun e w' => ∃ v b, e = .returned (.tuple #[.int .i64 v, .bool b]) ∧ Rx w' R Q n room (trn n room T o.ky i).2 ∧ Kp (fun b => b = R ∨ b = Q) X2 w' from fun w5 h5 => by
        refine (rdrop_u (HCE.out w5 h5).2.2 HTD.out HF.out).mono ?_
        rintro e w' ⟨rfl, a1, a2⟩
        rw [e2]
        exact ⟨_, _, rfl, a1, (h5.mono (fun _ _ h => h.elim)).trans a2⟩)
      clear hi e2
      go_upto_region 35 with (go_at_call 27; with_reducible refine (HGE.out).mono ?_; rintro e w5 ⟨rfl, hk5⟩; have HK5 := hid hk5; obtain ⟨z0, z1, -⟩ := HCE.out w5 hk5; clear hk5)
      clear cK cU
      go_upto_region 38 with (go_at_call 28; with_reducible refine (HDR.out w5 HK5.out).mono ?_; rintro e w6 ⟨v9, b9, rfl, hx6, hk6⟩; have H6 := hid (And.intro hx6 hk6); clear hx6 hk6)
      clear z0 z1
      obtain ⟨p1, p2, p3, p4, p5, p6, p7⟩ := HDO.out w6 H6.out.1 H6.out.2
      have cN := row_cell p2 0
      have cW := row_cell p3 0
      have cP := row_cell p4 0
      have cQ := row_cell p4 1
      simp only [List.getElem?_toArray, List.getElem?_cons_succ, List.getElem?_cons_zero] at cN cW cP cQ
      have HCP := hid (HPLC.out w6 p1)
      clear p1 p2 p3 p4 p5 p6 p7
      go_wp2_with (go_at_call 16; with_reducible refine (HCP.out).mono ?_; rintro e w7 ⟨rfl, hb7⟩; obtain ⟨⟨z2, z3⟩, hfn⟩ := HFI.out w6 w7 H6.out hb7; have HFN := hid hfn; have HF3 := hid (fin3 hfn.1 hfn.2.1 hfn.2.2.1 hfn.2.2.2.1 hfn.2.2.2.2.2 hfn.2.2.2.2.1 HDS.out.2.2.2.1 HDS.out.2.2.2.2.1 HDS.out.2.2.2.2.2); clear hfn hb7)
      refine ⟨by simp, .inl ⟨_, _, rfl, run_takeDeferred HFN.out.2.2.2.2.1, ?_⟩⟩
      refine ⟨by simp, .inl ⟨_, _, rfl, run_takeDeferred HF3.out.1, ?_⟩⟩
      refine ⟨by simp, .inl ⟨_, _, rfl, run_takeDeferred HF3.out.2.1, ?_⟩⟩
      have h3 := HF3.out.2.2.1
      refine ⟨.bool true, ?_, rfl, _, HF3.out.2.2.2.1, HF3.out.2.2.2.2⟩
      simp [results, Try.f29, go_sem, h3]
    | none =>
      have e2 := trn_none (n := n) (room := room) (k := o.ky) hi
      rw [hi] at HGE
      simp only [eU, eV] at HGE
      have HDR := hid (show ∀ w5, Kp (fun _ => False) X2 w5 → Calls Try.prog 26 #[.pointer (some ⟨R, 0, none⟩), .int .u64 o.ky, .int .i64 4242] w5 fun e w' => ∃ v, e = .returned (.int .i64 v) ∧ Rx w' R Q n room (trn n room T o.ky i).2 ∧ Kp (fun b => b = R ∨ b = Q) X2 w' from fun w5 h5 => by
        refine (rput_u (HCE.out w5 h5).2.2 4242 k0 k1 HF.out).mono ?_
        rintro e w' ⟨rfl, a1, a2⟩
        rw [e2]
        exact ⟨_, rfl, a1, (h5.mono (fun _ _ h => h.elim)).trans a2⟩)
      clear hi e2
      go_upto_region 35 with (go_at_call 27; with_reducible refine (HGE.out).mono ?_; rintro e w5 ⟨rfl, hk5⟩; have HK5 := hid hk5; obtain ⟨z0, z1, -⟩ := HCE.out w5 hk5; clear hk5)
      clear cK cU
      go_upto_region 38 with (go_at_call 26; with_reducible refine (HDR.out w5 HK5.out).mono ?_; rintro e w6 ⟨v9, rfl, hx6, hk6⟩; have H6 := hid (And.intro hx6 hk6); clear hx6 hk6)
      clear z0 z1
      obtain ⟨p1, p2, p3, p4, p5, p6, p7⟩ := HDO.out w6 H6.out.1 H6.out.2
      have cN := row_cell p2 0
      have cW := row_cell p3 0
      have cP := row_cell p4 0
      have cQ := row_cell p4 1
      simp only [List.getElem?_toArray, List.getElem?_cons_succ, List.getElem?_cons_zero] at cN cW cP cQ
      have HCP := hid (HPLC.out w6 p1)
      clear p1 p2 p3 p4 p5 p6 p7
      go_wp2_with (go_at_call 16; with_reducible refine (HCP.out).mono ?_; rintro e w7 ⟨rfl, hb7⟩; obtain ⟨⟨z2, z3⟩, hfn⟩ := HFI.out w6 w7 H6.out hb7; have HFN := hid hfn; have HF3 := hid (fin3 hfn.1 hfn.2.1 hfn.2.2.1 hfn.2.2.2.1 hfn.2.2.2.2.2 hfn.2.2.2.2.1 HDS.out.2.2.2.1 HDS.out.2.2.2.2.1 HDS.out.2.2.2.2.2); clear hfn hb7)
      refine ⟨by simp, .inl ⟨_, _, rfl, run_takeDeferred HFN.out.2.2.2.2.1, ?_⟩⟩
      refine ⟨by simp, .inl ⟨_, _, rfl, run_takeDeferred HF3.out.1, ?_⟩⟩
      refine ⟨by simp, .inl ⟨_, _, rfl, run_takeDeferred HF3.out.2.1, ?_⟩⟩
      have h3 := HF3.out.2.2.1
      refine ⟨.bool true, ?_, rfl, _, HF3.out.2.2.2.1, HF3.out.2.2.2.2⟩
      simp [results, Try.f29, go_sem, h3]
end Go.Proofs.Ythidnipmkffilaa
