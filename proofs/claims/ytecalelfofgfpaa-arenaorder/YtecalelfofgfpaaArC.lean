/-
  Take, Get, Set, release, Drop.
-/
import Derived.Test.YtecalelfofgfpaaArB
namespace Go.Proofs.Ytecalelfofgfpaa
open Go.RowKit Go.Deep
set_option linter.unusedVariables false
set_option linter.unusedSimpArgs false

theorem res34 (fn : Func) (p u : Tmp) (h : fn.results = #[.cell p 34, .tmp u]) (tmps : Array Value) (w : World) (g : Nat) (a b : Value) (eu : Value)
    (hp : tmps.getD p undef = .pointer (some ⟨g, 0, none⟩)) (hu : tmps.getD u undef = eu) (hg : w.heap[g]? = some (.cells #[a, b] 34 (0, 0))) (hi : (Try.prog.info? 34).map (·.size) = some 2) :
    (results fn tmps).run Try.prog w = .ok (.tuple #[.agg #[a, b], eu]) w := by
  have hp' : tmps[p]?.getD undef = .pointer (some ⟨g, 0, none⟩) := by simpa using hp
  have hu' : tmps[u]?.getD undef = eu := by simpa using hu
  simp [results, h, hp', hu', asAddr, run_loadVar_row w g 34 34 #[a, b] (0, 0) _ hg Try.underlying34 rfl hi]
theorem info34 : (Try.prog.info? 34).map (·.size) = some 2 := by kernel_rfl

/-- a node is taken. -/
def ArS.took (s : ArS) (b : Nat) (v : Int) : ArS := { s with tk := s.tk + 1, nd := upd s.nd b { s.nd b with life := ((s.nd b).life + 1) % 4294967296, tk := true, v := v } }
theorem upd_upd (f : Nat → Nd) (b : Nat) (m n : Nd) : upd (upd f b m) b n = upd f b n := by
  funext x; unfold upd; split <;> rfl
theorem st34 {w : World} {g : Nat} {x y : Value} (hz : w.heap[g]? = some (.cells #[x, y] 34 (0, 0))) (a b : Value) : ((w.setCell ⟨g, 0, none⟩ a).setCell ⟨g, 1, none⟩ b).heap[g]? = some (.cells #[a, b] 34 (0, 0)) := by
  rw [heap_setCell_same _ g 1 _ 34 b (heap_setCell_same w g 0 _ 34 a hz)]; simp
/-- where the next node comes from. -/
def Sp (s : ArS) (b : Nat) (s1 : ArS) : Prop := (s.fr = some b ∧ s1 = s.pop b) ∨ (s.fr = none ∧ b ∉ s.bs ∧ s1 = s.more b)
theorem Ar.lt {base : Nat} {w : World} {A : Nat} {s : ArS} (h : Ar base w A s) : A < w.heap.size := by
  obtain ⟨sl, h1, _⟩ := h.row
  exact row_lt h1
theorem Ar.base_le {base : Nat} {w : World} {A : Nat} {s : ArS} (h : Ar base w A s) : base ≤ w.heap.size := Nat.le_trans h.low (Nat.le_of_lt h.lt)
theorem spare_any {base : Nat} {w : World} {A : Nat} {s : ArS} (h : Ar base w A s) (hf : ∀ b, s.fr = some b → b ∈ s.bs) (hl : s.bs.length ≤ 65536) :
    Calls Try.prog 66 #[.pointer (some ⟨A, 0, none⟩)] w fun e w' => ∃ b s1, Sp s b s1 ∧ b ∈ s1.bs ∧ e = .returned (.pointer (some ⟨b, 0, none⟩)) ∧ Ar base w' A s1 ∧ Kp base w w' := by
  cases hfr : s.fr with
  | none =>
    refine (spare_new h hfr hl).mono ?_
    rintro e w' ⟨b, hb, rfl, h1, h2⟩
    have hnod : (s.bs ++ [b]).Nodup := h1.nod
    refine ⟨b, s.more b, Or.inr ⟨hfr, ?_, rfl⟩, by simp [ArS.more], rfl, h1, h2⟩
    intro hm
    rw [List.nodup_append] at hnod
    exact hnod.2.2 b hm b (by simp) rfl
  | some b =>
    refine (spare_pop h b hfr (hf b hfr)).mono ?_
    rintro e w' ⟨rfl, h1, h2⟩
    exact ⟨b, s.pop b, Or.inl ⟨hfr, rfl⟩, hf b hfr, rfl, h1, h2⟩
set_option maxHeartbeats 1000000 in
set_option maxRecDepth 100000 in
theorem take_full {base : Nat} {w : World} {A : Nat} {s : ArS} (h : Ar base w A s) (v : Int) (ht : s.tk = s.room) (hr : s.room ≤ 65536) :
    Calls Try.prog 15 #[.pointer (some ⟨A, 0, none⟩), .int .i64 v] w fun e w' => e = .returned (.tuple #[.agg #[.int .u32 0, .int .u32 0], .int .i64 51]) ∧ Below w.heap.size w w' := by
  have FR := hid (free_any (h.on (ball w (.cells #[.int .u32 0, .int .u32 0] 34))) (by omega) hr)
  have z : ((s.room : Int) - s.tk) = 0 := by omega
  rw [z] at FR
  clear h z ht
  go_enter Try.func15, Try.ntmps15
  go_wp2_with (first | (go_at_call 23; refine (FR.out).mono ?_; rintro e w1 ⟨rfl, hb⟩; have HB := hid (btr (ball _ _) hb); have hz := row_on (heap_alloc_new w (.cells #[.int .u32 0, .int .u32 0] 34)) hb; have z0 := row_cell hz 0; have z1 := row_cell hz 1; have zf0 := frozen_of_row w1 w.heap.size 0 _ _ hz; have zf1 := frozen_of_row w1 w.heap.size 1 _ _ hz; simp only [List.getElem?_toArray, List.getElem?_cons_zero, List.getElem?_cons_succ] at z0 z1; have HZ := hid hz; clear hb hz; refine Hid.out ?_))
  refine hid ?_
  go_wp2
  exact bodyPost_ret (res34 Try.f15 4 5 Try.results15 _ _ w.heap.size _ _ _ (by rfl) (by rfl) (st34 HZ.out _ _) info34) rfl ⟨rfl, (HB.out.setCell (Nat.le_refl _) _).setCell (Nat.le_refl _) _⟩
/-- a cell of another block written. -/
theorem Ar.other {base : Nat} {w : World} {A : Nat} {s : ArS} (h : Ar base w A s) {g : Nat} {c : Array Value} {t : TypeId} (hg : w.heap[g]? = some (.cells c t (0, 0))) (ht : ¬ Mine t) (k : Nat) (v : Value) : Ar base (w.setCell ⟨g, k, none⟩ v) A s := by
  have hm : ∀ (x : Nat) (o : Obj), w.heap[x]? = some o → (∀ c', o ≠ Obj.cells c' t (0, 0)) → (w.setCell ⟨g, k, none⟩ v).heap[x]? = some o := by
    intro x o hx hn
    rw [heap_setCell_other _ _ _ _ (by show x ≠ g; rintro rfl; rw [hg] at hx; exact hn c (Option.some.inj hx).symm)]
    exact hx
  have nt : ∀ (c1 c2 : Array Value) (t' : TypeId), Mine t' → Obj.cells c1 t' (0, 0) ≠ Obj.cells c2 t (0, 0) := by
    intro c1 c2 t' hm e
    simp at e
    exact ht (e.2 ▸ hm)
  obtain ⟨h0, ⟨sl, h1, h2⟩, h3, h4⟩ := h
  refine ⟨h0, ⟨sl, hm _ _ h1 (fun c' => nt _ _ _ m91), ?_⟩, h3, fun i hi => ⟨(h4 i hi).1, hm _ _ (h4 i hi).2.1 (fun c' => nt _ _ _ m94), (h4 i hi).2.2⟩⟩
  obtain ⟨r1, r2⟩ := h2
  refine ⟨r1, r2.imp id ?_⟩
  rintro ⟨g', cap, cur, e1, e2, hg', r⟩
  exact ⟨g', cap, cur, e1, e2, hm _ _ hg' (fun c' => nt _ _ _ m89), r⟩
theorem Kp.new {base : Nat} {w w' : World} (h : Kp base w w') {g : Nat} (hg : w.heap.size ≤ g) (hb : base ≤ w.heap.size) (k : Nat) (v : Value) : Kp base w (w'.setCell ⟨g, k, none⟩ v) := by
  refine ⟨h.bel.setCell (Nat.le_trans hb hg) _, by simpa using h.size, ?_⟩
  intro b o hx ht
  rw [heap_setCell_other _ _ _ _ (by show b ≠ g; have := row_lt hx; omega)]
  exact h.obj b o hx ht
theorem Sp.tk {s s1 : ArS} {b : Nat} (h : Sp s b s1) : s1.tk = s.tk := by
  rcases h with ⟨_, rfl⟩ | ⟨_, _, rfl⟩ <;> rfl
theorem took_set {base : Nat} {w : World} {A : Nat} {s : ArS} (h : Ar base w A s) {b : Nat} (hb : b ∈ s.bs) (l v t : Int) (hl : l = (((s.nd b).life + 1) % 4294967296 : Nat)) (ht : t = (s.tk : Int) + 1) :
    Ar base ((((w.setCell ⟨b, 1, none⟩ (.int .u32 l)).setCell ⟨b, 2, none⟩ (.bool true)).setCell ⟨b, 3, none⟩ (.int .i64 v)).setCell ⟨A, 1, none⟩ (.int .i64 t)) A (s.took b v) ∧
    Kp base w ((((w.setCell ⟨b, 1, none⟩ (.int .u32 l)).setCell ⟨b, 2, none⟩ (.bool true)).setCell ⟨b, 3, none⟩ (.int .i64 v)).setCell ⟨A, 1, none⟩ (.int .i64 t)) := by
  subst hl ht
  obtain ⟨a1, k1⟩ := h.setNode hb 1 (.int .u32 (((s.nd b).life + 1) % 4294967296 : Nat)) { s.nd b with life := ((s.nd b).life + 1) % 4294967296 } (by simp [nrow]) rfl
  obtain ⟨a2, k2⟩ := a1.setNode hb 2 (.bool true) { s.nd b with life := ((s.nd b).life + 1) % 4294967296, tk := true } (by simp [nrow, upd_same]) (by simp [upd_same])
  obtain ⟨a3, k3⟩ := a2.setNode hb 3 (.int .i64 v) { s.nd b with life := ((s.nd b).life + 1) % 4294967296, tk := true, v := v } (by simp [nrow, upd_same]) (by simp [upd_same])
  obtain ⟨a4, k4⟩ := a3.setA 1 (.int .i64 ((s.tk : Int) + 1)) (s.took b v) ⟨rfl, by simp only [ArS.took, upd_upd]⟩ (fun sl => by simp [ArS.took])
  exact ⟨a4, ((k1.trans k2).trans k3).trans k4⟩
set_option maxHeartbeats 1000000 in
set_option maxRecDepth 100000 in
theorem take_any {base : Nat} {w : World} {A : Nat} {s : ArS} (h : Ar base w A s) (v : Int) (ht : s.tk < s.room) (hr : s.room ≤ 65536) (hf : ∀ b, s.fr = some b → b ∈ s.bs) (hl : s.bs.length ≤ 65536) :
    Calls Try.prog 15 #[.pointer (some ⟨A, 0, none⟩), .int .i64 v] w fun e w' => ∃ b s1, Sp s b s1 ∧ b ∈ s1.bs ∧ e = .returned (.tuple #[.agg #[.int .u32 (s1.nd b).idx, .int .u32 (((s1.nd b).life + 1) % 4294967296 : Nat)], .int .i64 0]) ∧ Ar base w' A (s1.took b v) ∧ Kp base w w' := by
  have FR := hid (free_any (h.on (ball w (.cells #[.int .u32 0, .int .u32 0] 34))) (by omega) hr)
  obtain ⟨d, hd⟩ : ∃ d : Int, ((s.room : Int) - s.tk) = d := ⟨_, rfl⟩
  have d0 : (d == 0) = false := by simp; omega
  rw [hd] at FR
  have HH := hid h
  have SP := hid (show ∀ w', Below (w.alloc (.cells #[.int .u32 0, .int .u32 0] 34)).heap.size (w.alloc (.cells #[.int .u32 0, .int .u32 0] 34)) w' → Calls Try.prog 66 #[.pointer (some ⟨A, 0, none⟩)] w' fun e w2 => ∃ b s1, Sp s b s1 ∧ b ∈ s1.bs ∧ e = .returned (.pointer (some ⟨b, 0, none⟩)) ∧ Ar base w2 A s1 ∧ Kp base w' w2 from by
    intro w' hb
    exact spare_any (h.on (btr (ball w _) hb)) hf hl)
  have HT := hid (show s.tk < 65536 by omega)
  clear h hd ht hl hr hf
  go_enter Try.func15, Try.ntmps15
  go_wp2_with (first | (go_at_call 23; refine (FR.out).mono ?_; rintro e w1 ⟨rfl, hb⟩; have HB := hid hb; have HZ := hid (row_on (heap_alloc_new w (.cells #[.int .u32 0, .int .u32 0] 34)) hb); clear hb; refine Hid.out ?_))
  refine hid ?_
  go_wp2_with (first | (go_at_call 66; refine (SP.out _ HB.out).mono ?_; rintro e w2 ⟨b, s1, hsp, hb1, rfl, har, hkp⟩; refine Hid.out ?_))
  have HK := hid ((Kp.of HH.out.base_le (btr (ball w _) HB.out)).trans hkp)
  have hz2 := hkp.blk _ _ _ HZ.out n34
  have HA2 := hid har
  have hnb := har.node hb1
  have hne := har.ne hb1
  have hne2 : ¬ b = A := fun e => hne e.symm
  obtain ⟨h0, ⟨sl, h1, h2⟩, h3, h4⟩ := har
  have tk1 := hsp.tk
  have htk : ((s1.tk : Nat) : Int) < 65536 := by rw [tk1]; have := HT.out; omega
  have htk0 : (0 : Int) ≤ ((s1.tk : Nat) : Int) := by omega
  have gb : ¬ w.heap.size = b := by rintro e; rw [e, hnb.2] at hz2; simp at hz2
  have gA : ¬ w.heap.size = A := by rintro e; rw [e, h1] at hz2; simp at hz2
  have gb2 : ¬ b = w.heap.size := fun e => gb e.symm
  have gA2 : ¬ A = w.heap.size := fun e => gA e.symm
  obtain ⟨lf, hlf⟩ : ∃ lf : Nat, ((s1.nd b).life + 1) % 4294967296 = lf := ⟨_, rfl⟩
  have wl : IntKind.u32.wrap (((s1.nd b).life : Int) + 1) = (lf : Int) := by rw [← hlf]; simp [IntKind.wrap, IntKind.bits, IntKind.signed]
  obtain ⟨of, hof⟩ : ∃ of : Nat, (s1.nd b).life = of := ⟨_, rfl⟩
  obtain ⟨ix, hix⟩ : ∃ ix : Nat, (s1.nd b).idx = ix := ⟨_, rfl⟩
  obtain ⟨tk, htk'⟩ : ∃ tk : Nat, s1.tk = tk := ⟨_, rfl⟩
  have c0 : w2.cell? ⟨b, 0, none⟩ = some (.int .u32 ix) := by rw [row_cell hnb.2 0, ← hix]; simp [nrow]
  have c1 : w2.cell? ⟨b, 1, none⟩ = some (.int .u32 of) := by rw [row_cell hnb.2 1, ← hof]; simp [nrow]
  have c2 : ∃ u, w2.cell? ⟨b, 2, none⟩ = some (.bool u) := ⟨_, row_cell hnb.2 2⟩
  have c3 : ∃ u, w2.cell? ⟨b, 3, none⟩ = some (.int .i64 u) := ⟨_, row_cell hnb.2 3⟩
  obtain ⟨u2, c2⟩ := c2
  obtain ⟨u3, c3⟩ := c3
  have d1 : w2.cell? ⟨A, 1, none⟩ = some (.int .i64 tk) := by rw [row_cell h1 1, ← htk']; simp
  have f1 : w2.frozen? ⟨b, 1, none⟩ = false := frozen_of_row w2 b 1 _ _ hnb.2
  have f2 : w2.frozen? ⟨b, 2, none⟩ = false := frozen_of_row w2 b 2 _ _ hnb.2
  have f3 : w2.frozen? ⟨b, 3, none⟩ = false := frozen_of_row w2 b 3 _ _ hnb.2
  have g1 : w2.frozen? ⟨A, 1, none⟩ = false := frozen_of_row w2 A 1 _ _ h1
  have z0 : w2.cell? ⟨w.heap.size, 0, none⟩ = some (.int .u32 0) := row_cell hz2 0
  have z1 : w2.cell? ⟨w.heap.size, 1, none⟩ = some (.int .u32 0) := row_cell hz2 1
  have zf0 : w2.frozen? ⟨w.heap.size, 0, none⟩ = false := frozen_of_row w2 _ 0 _ _ hz2
  have zf1 : w2.frozen? ⟨w.heap.size, 1, none⟩ = false := frozen_of_row w2 _ 1 _ _ hz2
  have FIN := hid (took_set HA2.out hb1 (lf : Int) v ((tk : Int) + 1) (by rw [hlf]) (by rw [htk']))
  have HZ2 := hid (show ∀ l v' t, ((((w2.setCell ⟨b, 1, none⟩ l).setCell ⟨b, 2, none⟩ (.bool true)).setCell ⟨b, 3, none⟩ v').setCell ⟨A, 1, none⟩ t).heap[w.heap.size]? = some (.cells #[.int .u32 0, .int .u32 0] 34 (0, 0)) from fun l v' t => by
    rw [heap_setCell_other _ _ _ _ (by exact gA), heap_setCell_other _ _ _ _ (by exact gb), heap_setCell_other _ _ _ _ (by exact gb), heap_setCell_other _ _ _ _ (by exact gb)]; exact hz2)
  rw [hof] at wl
  rw [htk'] at htk htk0
  have HSP := hid hsp
  have HB1 := hid hb1
  have HLF := hid hlf
  have HIX := hid hix
  have HSZ := hid (show w.heap.size ≤ w.heap.size from Nat.le_refl _)
  clear h1 h2 h3 h4 hnb hz2 hkp tk1 htk' hsp hb1 hlf hix hof HB HZ SP FR
  refine hid ?_
  go_wp2
  refine bodyPost_ret (res34 Try.f15 4 5 Try.results15 _ _ w.heap.size _ _ _ (by rfl) (by rfl) (st34 (HZ2.out _ _ _) _ _) info34) rfl ⟨b, s1, HSP.out, HB1.out, by rw [HIX.out, HLF.out]; rfl, ?_, ?_⟩
  · exact (FIN.out.1.other (HZ2.out _ _ _) n34 _ _).other (heap_setCell_same _ _ _ _ 34 _ (HZ2.out _ _ _)) n34 _ _
  · exact ((HK.out.trans FIN.out.2).new (Nat.le_refl _) HH.out.base_le _ _).new (Nat.le_refl _) HH.out.base_le _ _

set_option maxHeartbeats 1000000 in
set_option maxRecDepth 100000 in
theorem get_any {base : Nat} {w : World} {A : Nat} {s : ArS} (h : Ar base w A s) (hl : s.bs.length ≤ 65536) (i l : Nat) :
    Calls Try.prog 17 #[.pointer (some ⟨A, 0, none⟩), .agg #[.int .u32 i, .int .u32 l]] w fun e w' => e = .returned (match s.at i l with | none => .tuple #[.int .i64 0, .int .i64 50] | some b => .tuple #[.int .i64 (s.nd b).v, .int .i64 0]) ∧ Below w.heap.size w w' := by
  have FI := hid (find_any (h.on (ball w (.cells #[.int .u32 i, .int .u32 l] 34))) hl i l)
  have HH := hid h
  cases hat : s.at i l with
  | none =>
    rw [hat] at FI
    simp only [pb] at FI
    clear h hat
    go_enter Try.func17, Try.ntmps17
    go_wp2_with (first | (go_at_call 68; refine (FI.out).mono ?_; rintro e w1 ⟨rfl, hb⟩; have HB := hid (btr (ball w _) hb); clear hb; refine Hid.out ?_))
    refine hid ?_
    go_wp2
    go_ret2
    exact ⟨rfl, HB.out⟩
  | some b =>
    have hbm : b ∈ s.bs := by
      unfold ArS.at at hat
      split at hat
      · simp at hat
      · rename_i b' hb'
        split at hat
        · simp at hat; subst hat; exact List.mem_of_getElem? hb'
        · simp at hat
    have hn := (h.node hbm).2
    rw [hat] at FI
    simp only [pb] at FI
    have HN := hid hn
    clear h hat hn
    go_enter Try.func17, Try.ntmps17
    go_wp2_with (first | (go_at_call 68; refine (FI.out).mono ?_; rintro e w1 ⟨rfl, hb⟩; have HB := hid (btr (ball w _) hb); clear hb; refine Hid.out ?_))
    have c3 : w1.cell? ⟨b, 3, none⟩ = some (.int .i64 (s.nd b).v) := row_cell (row_on HN.out HB.out) 3
    refine hid ?_
    go_wp2
    go_ret2
    exact ⟨rfl, HB.out⟩
theorem ArS.at_mem {s : ArS} {i l b : Nat} (hat : s.at i l = some b) : b ∈ s.bs ∧ (s.nd b).tk = true ∧ (s.nd b).life = l ∧ s.bs[i]? = some b := by
  unfold ArS.at at hat
  split at hat
  · simp at hat
  · rename_i b' hb'
    split at hat
    · rename_i hh
      simp at hat; subst hat; exact ⟨List.mem_of_getElem? hb', hh.1, hh.2, hb'⟩
    · simp at hat
set_option maxHeartbeats 1000000 in
set_option maxRecDepth 100000 in
theorem set_none {base : Nat} {w : World} {A : Nat} {s : ArS} (h : Ar base w A s) (hl : s.bs.length ≤ 65536) (i l : Nat) (v : Int) (hat : s.at i l = none) :
    Calls Try.prog 22 #[.pointer (some ⟨A, 0, none⟩), .agg #[.int .u32 i, .int .u32 l], .int .i64 v] w fun e w' => e = .returned (.int .i64 50) ∧ Below w.heap.size w w' := by
  have FI := hid (find_any (h.on (ball w (.cells #[.int .u32 i, .int .u32 l] 34))) hl i l)
  rw [hat] at FI
  simp only [pb] at FI
  clear h hat
  go_enter Try.func22, Try.ntmps22
  go_wp2_with (first | (go_at_call 68; refine (FI.out).mono ?_; rintro e w1 ⟨rfl, hb⟩; have HB := hid (btr (ball w _) hb); clear hb; refine Hid.out ?_))
  refine hid ?_
  go_wp2
  go_ret
  exact ⟨rfl, HB.out⟩
set_option maxHeartbeats 1000000 in
set_option maxRecDepth 100000 in
theorem drop_none {base : Nat} {w : World} {A : Nat} {s : ArS} (h : Ar base w A s) (hl : s.bs.length ≤ 65536) (i l : Nat) (hat : s.at i l = none) :
    Calls Try.prog 21 #[.pointer (some ⟨A, 0, none⟩), .agg #[.int .u32 i, .int .u32 l]] w fun e w' => e = .returned (.int .i64 50) ∧ Below w.heap.size w w' := by
  have FI := hid (find_any (h.on (ball w (.cells #[.int .u32 i, .int .u32 l] 34))) hl i l)
  rw [hat] at FI
  simp only [pb] at FI
  clear h hat
  go_enter Try.func21, Try.ntmps21
  go_wp2_with (first | (go_at_call 68; refine (FI.out).mono ?_; rintro e w1 ⟨rfl, hb⟩; have HB := hid (btr (ball w _) hb); clear hb; refine Hid.out ?_))
  refine hid ?_
  go_wp2
  go_ret
  exact ⟨rfl, HB.out⟩
/-- a node is given back. -/
def ArS.gone (s : ArS) (b : Nat) : ArS := { s with tk := s.tk - 1, fr := some b, nd := upd s.nd b { s.nd b with tk := false, v := 0, be := s.fr } }
theorem gone_set {base : Nat} {w : World} {A : Nat} {s : ArS} (h : Ar base w A s) {b : Nat} (hb : b ∈ s.bs) (t : Int) (ht : t = ((s.tk - 1 : Nat) : Int)) :
    Ar base (((((w.setCell ⟨b, 2, none⟩ (.bool false)).setCell ⟨b, 3, none⟩ (.int .i64 0)).setCell ⟨b, 7, none⟩ (pb s.fr)).setCell ⟨A, 3, none⟩ (.pointer (some ⟨b, 0, none⟩))).setCell ⟨A, 1, none⟩ (.int .i64 t)) A (s.gone b) ∧
    Kp base w (((((w.setCell ⟨b, 2, none⟩ (.bool false)).setCell ⟨b, 3, none⟩ (.int .i64 0)).setCell ⟨b, 7, none⟩ (pb s.fr)).setCell ⟨A, 3, none⟩ (.pointer (some ⟨b, 0, none⟩))).setCell ⟨A, 1, none⟩ (.int .i64 t)) := by
  subst ht
  obtain ⟨a1, k1⟩ := h.setNode hb 2 (.bool false) { s.nd b with tk := false } (by simp [nrow]) rfl
  obtain ⟨a2, k2⟩ := a1.setNode hb 3 (.int .i64 0) { s.nd b with tk := false, v := 0 } (by simp [nrow, upd_same]) (by simp [upd_same])
  obtain ⟨a3, k3⟩ := a2.setNode hb 7 (pb s.fr) { s.nd b with tk := false, v := 0, be := s.fr } (by simp [nrow, upd_same]) (by simp [upd_same])
  obtain ⟨a4, k4⟩ := a3.setA 3 (.pointer (some ⟨b, 0, none⟩)) { s with fr := some b, nd := upd s.nd b { s.nd b with tk := false, v := 0, be := s.fr } } ⟨rfl, by simp only [upd_upd]⟩ (fun sl => by simp [pb])
  obtain ⟨a5, k5⟩ := a4.setA 1 (.int .i64 ((s.tk - 1 : Nat) : Int)) (s.gone b) ⟨rfl, by simp only [ArS.gone, upd_upd]⟩ (fun sl => by simp [ArS.gone])
  exact ⟨a5, (((k1.trans k2).trans k3).trans k4).trans k5⟩
set_option maxHeartbeats 1000000 in
set_option maxRecDepth 100000 in
theorem release_any {base : Nat} {w : World} {A : Nat} {s : ArS} (h : Ar base w A s) {b : Nat} (hb : b ∈ s.bs) (ht : 1 ≤ s.tk) (ht2 : s.tk ≤ 65536) :
    Calls Try.prog 70 #[.pointer (some ⟨A, 0, none⟩), .pointer (some ⟨b, 0, none⟩)] w fun e w' => e = .returned (.tuple #[]) ∧ Ar base w' A (s.gone b) ∧ Kp base w w' := by
  have hnb := h.node hb
  have hne := h.ne hb
  have hne2 : ¬ b = A := fun e => hne e.symm
  have FIN := hid (gone_set h hb ((s.tk : Int) - 1) (by omega))
  obtain ⟨h0, ⟨sl, h1, h2⟩, h3, h4⟩ := h
  have c2 : ∃ u, w.cell? ⟨b, 2, none⟩ = some (.bool u) := ⟨_, row_cell hnb.2 2⟩
  have c3 : ∃ u, w.cell? ⟨b, 3, none⟩ = some (.int .i64 u) := ⟨_, row_cell hnb.2 3⟩
  obtain ⟨u2, c2⟩ := c2
  obtain ⟨u3, c3⟩ := c3
  have c7 : ∃ u, w.cell? ⟨b, 7, none⟩ = some u := ⟨_, row_cell hnb.2 7⟩
  obtain ⟨u7, c7⟩ := c7
  have f2 : w.frozen? ⟨b, 2, none⟩ = false := frozen_of_row w b 2 _ _ hnb.2
  have f3 : w.frozen? ⟨b, 3, none⟩ = false := frozen_of_row w b 3 _ _ hnb.2
  have f7 : w.frozen? ⟨b, 7, none⟩ = false := frozen_of_row w b 7 _ _ hnb.2
  have d1 : w.cell? ⟨A, 1, none⟩ = some (.int .i64 s.tk) := row_cell h1 1
  have d3 : w.cell? ⟨A, 3, none⟩ = some (pb s.fr) := row_cell h1 3
  have g1 : w.frozen? ⟨A, 1, none⟩ = false := frozen_of_row w A 1 _ _ h1
  have g3 : w.frozen? ⟨A, 3, none⟩ = false := frozen_of_row w A 3 _ _ h1
  have i1 : (1 : Int) ≤ (s.tk : Int) := by omega
  have i2 : (s.tk : Int) ≤ 65536 := by omega
  clear h1 h2 h3 h4 hnb ht ht2
  cases hfr : s.fr with
  | none =>
    rw [hfr] at d3 FIN
    simp only [pb] at d3 FIN
    clear hfr
    go_enter Try.func70, Try.ntmps70
    go_wp2
    go_end0
    exact ⟨rfl, FIN.out.1, FIN.out.2⟩
  | some f =>
    rw [hfr] at d3 FIN
    simp only [pb] at d3 FIN
    clear hfr
    go_enter Try.func70, Try.ntmps70
    go_wp2
    go_end0
    exact ⟨rfl, FIN.out.1, FIN.out.2⟩
set_option maxHeartbeats 1000000 in
set_option maxRecDepth 100000 in
theorem drop_any {base : Nat} {w : World} {A : Nat} {s : ArS} (h : Ar base w A s) (hl : s.bs.length ≤ 65536) (i l b : Nat) (hat : s.at i l = some b) (hq : (s.nd b).q = none) (ht : 1 ≤ s.tk) (ht2 : s.tk ≤ 65536) :
    Calls Try.prog 21 #[.pointer (some ⟨A, 0, none⟩), .agg #[.int .u32 i, .int .u32 l]] w fun e w' => e = .returned (.int .i64 0) ∧ Ar base w' A (s.gone b) ∧ Kp base w w' := by
  have FI := hid (find_any (h.on (ball w (.cells #[.int .u32 i, .int .u32 l] 34))) hl i l)
  have hm := (ArS.at_mem hat).1
  have hn := (h.node hm).2
  rw [hat] at FI
  simp only [pb] at FI
  have HN := hid (show w.heap[b]? = _ from hn)
  have HQ := hid hq
  have RE := hid (show ∀ w', Below w.heap.size w w' → Calls Try.prog 70 #[.pointer (some ⟨A, 0, none⟩), .pointer (some ⟨b, 0, none⟩)] w' fun e w2 => e = .returned (.tuple #[]) ∧ Ar base w2 A (s.gone b) ∧ Kp base w w2 from by
    intro w' hb
    refine (release_any (h.on hb) hm ht ht2).mono ?_
    rintro e w2 ⟨e1, e2, e3⟩
    exact ⟨e1, e2, (Kp.of h.base_le hb).trans e3⟩)
  clear h hat hn hm hq ht ht2
  go_enter Try.func21, Try.ntmps21
  go_wp2_with (first | (go_at_call 68; refine (FI.out).mono ?_; rintro e w1 ⟨rfl, hb⟩; have HB := hid (btr (ball w _) hb); clear hb; refine Hid.out ?_))
  have c4 : w1.cell? ⟨b, 4, none⟩ = some (.pointer none) := by rw [row_cell (row_on HN.out HB.out) 4]; simp [nrow, HQ.out, pb]
  refine hid ?_
  go_wp2_with (first | (go_at_call 70; refine (RE.out _ HB.out).mono ?_; rintro e w2 ⟨rfl, h1, h2⟩; have H1 := hid h1; have H2 := hid h2; clear h1 h2; refine Hid.out ?_))
  refine hid ?_
  go_wp2
  go_ret
  exact ⟨rfl, H1.out, H2.out⟩
end Go.Proofs.Ytecalelfofgfpaa
