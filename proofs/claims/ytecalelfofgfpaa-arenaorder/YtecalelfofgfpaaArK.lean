/-
  A queue in memory; next, pass, find.
-/
import Derived.Test.YtecalelfofgfpaaArG
import Derived.Deep.RegionWith
import Derived.Deep.RegionHeld3
import Derived.LaidEqlPtr
namespace Go.Proofs.Ytecalelfofgfpaa
open Go.RowKit Go.Deep
set_option linter.unusedVariables false
set_option linter.unusedSimpArgs false

structure QuS where
  fr : Option Nat
  bk : Option Nat
  fi : Option Nat
  lv : Nat
  dd : Nat
def qrow (A : Nat) (s : QuS) : Array Value := #[.pointer (some ⟨A, 0, none⟩), pb s.fr, pb s.bk, pb s.fi, .int .i64 s.lv, .int .i64 s.dd]
structure AQ (base : Nat) (w : World) (A Q : Nat) (s : ArS) (qs : QuS) : Prop where
  ar : Ar base w A s
  qlow : base ≤ Q
  qr : w.heap[Q]? = some (.cells (qrow A qs) 102 (0, 0))
/-- what the queue's calls leave alone. -/
structure Kq (base : Nat) (w w' : World) : Prop where
  bel : Below base w w'
  size : w.heap.size ≤ w'.heap.size
  obj : ∀ (b : Nat) (o : Obj), w.heap[b]? = some o → ¬ MA o → ¬ MT 102 o → w'.heap[b]? = some o
theorem Kp.kq {base : Nat} {w w' : World} (h : Kp base w w') : Kq base w w' := ⟨h.bel, h.size, fun b o h1 h2 _ => h.obj b o h1 h2⟩
theorem Kq.refl (base : Nat) (w : World) : Kq base w w := (Kp.refl base w).kq
theorem Kq.trans {base : Nat} {a b c : World} (h : Kq base a b) (k : Kq base b c) : Kq base a c := ⟨h.bel.trans k.bel, Nat.le_trans h.size k.size, fun x o hx h1 h2 => k.obj x o (h.obj x o hx h1 h2) h1 h2⟩
theorem Kq.of {base : Nat} {a b : World} (hB : base ≤ a.heap.size) (k : Below a.heap.size a b) : Kq base a b := (Kp.of hB k).kq
theorem Kq.blk {base : Nat} {w w' : World} (k : Kq base w w') (b : Nat) (c : Array Value) (t : TypeId) (h : w.heap[b]? = some (.cells c t (0, 0))) (ht : ¬ Mine t) (hq : ¬ t = 102) : w'.heap[b]? = some (.cells c t (0, 0)) := by
  refine k.obj b _ h ?_ ?_
  · rintro ⟨c', t', fr, e, hm⟩
    simp at e
    exact ht (e.2.1 ▸ hm)
  · rintro ⟨c', fr, e⟩
    simp at e
    exact hq e.2.1
theorem Kq.setQ {base : Nat} {w : World} {g k : Nat} {c : Array Value} (hg : w.heap[g]? = some (.cells c 102 (0, 0))) (hb : base ≤ g) (v : Value) : Kq base w (w.setCell ⟨g, k, none⟩ v) := by
  refine ⟨(Below.refl _ _).setCell hb _, by simp, ?_⟩
  intro b o h h' h''
  rw [heap_setCell_other _ _ _ _ (by show b ≠ g; rintro rfl; rw [hg] at h; exact h'' ⟨c, _, (Option.some.inj h).symm⟩)]
  exact h
theorem AQ.on {base : Nat} {w w' : World} {A Q : Nat} {s : ArS} {qs : QuS} (h : AQ base w A Q s qs) (hb : Below w.heap.size w w') : AQ base w' A Q s qs := ⟨h.ar.on hb, h.qlow, row_on h.qr hb⟩
theorem AQ.neN {base : Nat} {w : World} {A Q : Nat} {s : ArS} {qs : QuS} (h : AQ base w A Q s qs) {b : Nat} (hb : b ∈ s.bs) : ¬ Q = b := by
  rintro rfl
  have := (h.ar.node hb).2
  rw [h.qr] at this
  simp at this
theorem AQ.neA {base : Nat} {w : World} {A Q : Nat} {s : ArS} {qs : QuS} (h : AQ base w A Q s qs) : ¬ Q = A := by
  rintro rfl
  obtain ⟨sl, h1, _⟩ := h.ar.row
  rw [h.qr] at h1
  simp at h1
theorem AQ.setNode {base : Nat} {w : World} {A Q : Nat} {s : ArS} {qs : QuS} (h : AQ base w A Q s qs) {b : Nat} (hb : b ∈ s.bs) (k : Nat) (v : Value) (n : Nd) (hn : (nrow (s.nd b)).setIfInBounds k v = nrow n) (hx : n.idx = (s.nd b).idx) :
    AQ base (w.setCell ⟨b, k, none⟩ v) A Q { s with nd := upd s.nd b n } qs ∧ Kq base w (w.setCell ⟨b, k, none⟩ v) := by
  obtain ⟨h1, h2⟩ := h.ar.setNode hb k v n hn hx
  refine ⟨⟨h1, h.qlow, ?_⟩, h2.kq⟩
  rw [heap_setCell_other _ _ _ _ (by show Q ≠ b; exact h.neN hb)]
  exact h.qr
theorem AQ.setQ {base : Nat} {w : World} {A Q : Nat} {s : ArS} {qs : QuS} (h : AQ base w A Q s qs) (k : Nat) (v : Value) (qs' : QuS) (hr : (qrow A qs).setIfInBounds k v = qrow A qs') :
    AQ base (w.setCell ⟨Q, k, none⟩ v) A Q s qs' ∧ Kq base w (w.setCell ⟨Q, k, none⟩ v) := by
  have hk : ∀ (x : Nat) (c : Array Value) (t : TypeId), w.heap[x]? = some (.cells c t (0, 0)) → ¬ t = 102 → (w.setCell ⟨Q, k, none⟩ v).heap[x]? = some (.cells c t (0, 0)) := by
    intro x c t hx ht
    rw [heap_setCell_other _ _ _ _ (by show x ≠ Q; rintro rfl; rw [h.qr] at hx; simp at hx; exact ht hx.2.symm)]
    exact hx
  refine ⟨⟨?_, h.qlow, ?_⟩, Kq.setQ h.qr h.qlow _⟩
  · obtain ⟨h0, ⟨sl, h1, h2⟩, h3, h4⟩ := h.ar
    refine ⟨h0, ⟨sl, hk _ _ _ h1 (by decide), ?_⟩, h3, fun i hi => ⟨(h4 i hi).1, hk _ _ _ (h4 i hi).2.1 (by decide), (h4 i hi).2.2⟩⟩
    obtain ⟨r1, r2⟩ := h2
    refine ⟨r1, r2.imp id ?_⟩
    rintro ⟨g', cap, cur, e1, e2, hg', r⟩
    exact ⟨g', cap, cur, e1, e2, hk _ _ _ hg' (by decide), r⟩
  · rw [heap_setCell_same w Q k _ 102 v h.qr, hr]
/-- the first that is not dead. -/
def fst (nd : Nat → Nd) (L : List Nat) : Option Nat := L.find? fun b => !(nd b).dd
theorem fst_cons_dead {nd : Nat → Nd} {b : Nat} {L : List Nat} (h : (nd b).dd = true) : fst nd (b :: L) = fst nd L := by simp [fst, h]
theorem fst_cons_live {nd : Nat → Nd} {b : Nat} {L : List Nat} (h : (nd b).dd = false) : fst nd (b :: L) = some b := by simp [fst, h]
/-- where in a list a pointer leads, from its end. -/
def far (L : List Nat) : Value → Nat
  | .pointer (some a) => L.length - L.idxOf a.block
  | _ => 0
theorem far_at {L : List Nat} (hn : L.Nodup) (j : Nat) (hj : j < L.length) : far L (.pointer (some ⟨L[j], 0, none⟩)) = L.length - j := by
  show L.length - L.idxOf L[j] = L.length - j
  rw [hn.idxOf_getElem j hj]
/-- one behind the other by their behinds. -/
theorem Ch.get {nd : Nat → Nd} : ∀ {fr : Option Nat} {L : List Nat}, Ch nd fr L → fr = L.head? ∧ ∀ j (h : j < L.length), (nd L[j]).be = L[j + 1]?
  | none, [], _ => ⟨rfl, fun j h => by simp at h⟩
  | none, _ :: _, h => absurd h (by simp [Ch])
  | some _, [], h => absurd h (by simp [Ch])
  | some b, c :: L, h => by
    obtain ⟨rfl, h2⟩ := h
    obtain ⟨h3, h4⟩ := Ch.get h2
    refine ⟨rfl, fun j hj => ?_⟩
    cases j with
    | zero => simp only [List.getElem_cons_zero, h3]; cases L <;> rfl
    | succ j => simp only [List.getElem_cons_succ]; rw [h4 j (by simpa using hj)]; simp
theorem fst_drop {nd : Nat → Nd} {L : List Nat} {j : Nat} (hj : j < L.length) : fst nd (L.drop j) = if (nd L[j]).dd = true then fst nd (L.drop (j + 1)) else some L[j] := by
  rw [List.drop_eq_getElem_cons hj]
  split
  · rename_i h; exact fst_cons_dead h
  · rename_i h; exact fst_cons_live (by simpa using h)

set_option maxHeartbeats 1000000 in
set_option maxRecDepth 100000 in
theorem next_any {base : Nat} {w : World} {A : Nat} {s : ArS} (h : Ar base w A s) {b : Nat} (hb : b ∈ s.bs) {L : List Nat} (hc : Ch s.nd (s.nd b).be L) (hL : ∀ x ∈ L, x ∈ s.bs) (hn : L.Nodup) :
    Calls Try.prog 76 #[.pointer (some ⟨b, 0, none⟩)] w fun e w' => e = .returned (pb (fst s.nd L)) ∧ w' = w := by
  obtain ⟨h1, h2⟩ := hc.get
  have hnb := (h.node hb).2
  have HH := hid h
  have HL := hid hL
  have HN := hid hn
  have HG := hid h2
  have hp : pb L.head? = pb L[0]? := by cases L <;> rfl
  have c7 : w.cell? ⟨b, 7, none⟩ = some (pb L[0]?) := by rw [row_cell hnb 7, ← hp, ← h1]; simp [nrow]
  obtain ⟨pv, hpv⟩ : ∃ pv, pb L[0]? = pv := ⟨_, rfl⟩
  rw [hpv] at c7
  have HP := hid hpv
  clear h hb hc hL hn h1 h2 hnb hp hpv
  go_enter Try.func76, Try.ntmps76
  go_wp2_with fail
  go_loopw [0] (fun v wr => ∃ j : Nat, j ≤ L.length ∧ v = pb L[j]? ∧ wr = w ∧ Hid (fst s.nd (L.drop j) = fst s.nd L)) (fun v _ => far L v)
  case atStart => exact ⟨0, Nat.zero_le _, HP.out.symm, rfl, hid rfl⟩
  case round =>
    obtain ⟨j, hj, rfl, rfl, HF⟩ := hrel
    by_cases hlt : j < L.length
    · have hx := HL.out _ (List.getElem_mem hlt)
      have hnx := (HH.out.node hx).2
      have hbe := HG.out j hlt
      have hfd := fst_drop (nd := s.nd) hlt
      have hfa := far_at HN.out j hlt
      rw [List.getElem?_eq_getElem hlt]
      obtain ⟨x, hxx⟩ : ∃ x, L[j] = x := ⟨_, rfl⟩
      rw [hxx] at hx hnx hbe hfd hfa ⊢
      obtain ⟨dd, hdd⟩ : ∃ dd, (s.nd x).dd = dd := ⟨_, rfl⟩
      have c5 : wr.cell? ⟨x, 5, none⟩ = some (.bool dd) := by rw [row_cell hnx 5, ← hdd]; simp [nrow]
      have c7 : wr.cell? ⟨x, 7, none⟩ = some (pb L[j + 1]?) := by rw [row_cell hnx 7, ← hbe]; simp [nrow]
      rw [hdd] at hfd
      have HFA := hid hfa
      have HLT := hid hlt
      cases dd with
      | true =>
        have HF2 := hid (show fst s.nd (L.drop (j + 1)) = fst s.nd L from by rw [← HF.out, hfd]; simp)
        have HM := hid (show far L (pb L[j + 1]?) < far L (.pointer (some ⟨x, 0, none⟩)) from by
          rw [hfa]
          by_cases h3 : j + 1 < L.length
          · rw [List.getElem?_eq_getElem h3]; simp only [pb]; rw [far_at HN.out _ h3]; omega
          · rw [List.getElem?_eq_none (by omega)]; simp only [pb, far]; omega)
        clear hx hnx hbe hfd hfa hxx hdd hlt HF
        simp only [pb]
        go_wp2
        go_roundw
        case rel => exact ⟨j + 1, by have := HLT.out; omega, by first | rfl | trivial, by first | rfl | trivial, HF2⟩
        case measure => exact HM.out
      | false =>
        have HF2 := hid (show fst s.nd L = some x from by rw [← HF.out, hfd]; simp)
        clear hx hnx hbe hfd hfa hxx hdd hlt HF
        simp only [pb]
        go_wp2
        go_ret
        exact ⟨by rw [HF2.out]; rfl, rfl⟩
    · obtain rfl : j = L.length := by omega
      rw [List.getElem?_eq_none (Nat.le_refl _)]
      have HF2 := hid (show fst s.nd L = none from by rw [← HF.out, List.drop_length]; rfl)
      clear HF hlt
      simp only [pb]
      go_wp2
      go_ret
      exact ⟨by rw [HF2.out]; rfl, rfl⟩

theorem info_some {t : TypeId} {n : Nat} (h : (Try.prog.info? t).map (·.size) = some n) : ∃ j, Try.prog.info? t = some j ∧ j.size = n := by
  cases e : Try.prog.info? t with
  | none => rw [e] at h; simp at h
  | some j => rw [e] at h; simp at h; exact ⟨j, rfl, h⟩
theorem info94 : (Try.prog.info? 94).map (·.size) = some 8 := by kernel_rfl
theorem info102 : (Try.prog.info? 102).map (·.size) = some 6 := by kernel_rfl
theorem eq89_same (w : World) (a : Nat) : (binOp .eql 89 (.pointer (some ⟨a, 0, none⟩)) (.pointer (some ⟨a, 0, none⟩))).run Try.prog w = .ok (.bool true) w := by
  obtain ⟨j, hj, _⟩ := info_some info94
  exact run_eql_ptr_same w _ Try.underlying89 hj
theorem eq89_other (w : World) {a b : Nat} (h : ¬ a = b) {ca cb : Array Value} {ta tb : TypeId} (ha : w.heap[a]? = some (.cells ca ta (0, 0))) (hb : w.heap[b]? = some (.cells cb tb (0, 0))) : (binOp .eql 89 (.pointer (some ⟨a, 0, none⟩)) (.pointer (some ⟨b, 0, none⟩))).run Try.prog w = .ok (.bool false) w := by
  obtain ⟨j, hj, hs⟩ := info_some info94
  exact run_eql_ptr_other w Try.underlying89 hj (by rw [hs]; decide) (by intro e; exact h (by simpa using congrArg Addr.block e)) ha hb
theorem equal_of_eql {P : Program} {w : World} {t : TypeId} {p q : Option Addr} {r : Bool} (h : (binOp .eql t (.pointer p) (.pointer q)).run P w = .ok (.bool r) w) : (Op.equal t (.pointer p) (.pointer q)).run P w = .ok r w := by
  simp only [binOp] at h
  cases hx : (Op.equal t (.pointer p) (.pointer q)).run P w with
  | ok v w' => simp [hx] at h; obtain ⟨rfl, rfl⟩ := h; rfl
  | _ => simp [hx] at h
theorem neq_of_eq {P : Program} {w : World} {t : TypeId} {p q : Option Addr} {r : Bool} (h : (binOp .eql t (.pointer p) (.pointer q)).run P w = .ok (.bool r) w) : (binOp .neq t (.pointer p) (.pointer q)).run P w = .ok (.bool (!r)) w := by
  have he := equal_of_eql h
  simp only [binOp]
  simp [he]
theorem eq89_nil (w : World) (b : Nat) : (binOp .eql 89 (.pointer none) (.pointer (some ⟨b, 0, none⟩))).run Try.prog w = .ok (.bool false) w := by
  have h : ∀ d : Nat, (Op.equalIn (d + 1) 89 (.pointer none) (.pointer (some ⟨b, 0, none⟩))).run Try.prog w = .ok false w := fun d => by simp [Op.equalIn, run_underlying Try.underlying89]
  simp only [binOp]
  simp [Op.equal, Op.maxDepth, h 9999]
theorem eq57_same (w : World) (a : Nat) : (binOp .eql 57 (.pointer (some ⟨a, 0, none⟩)) (.pointer (some ⟨a, 0, none⟩))).run Try.prog w = .ok (.bool true) w := by
  obtain ⟨j, hj, _⟩ := info_some info102
  exact run_eql_ptr_same w _ Try.underlying57 hj
set_option maxHeartbeats 1000000 in
set_option maxRecDepth 100000 in
theorem qfind_any {base : Nat} {w : World} {A Q : Nat} {s : ArS} {qs : QuS} (h : AQ base w A Q s qs) (hl : s.bs.length ≤ 65536) (i l b : Nat) (hat : s.at i l = some b) (hq : (s.nd b).q = some Q) :
    Calls Try.prog 71 #[.pointer (some ⟨Q, 0, none⟩), .agg #[.int .u32 i, .int .u32 l]] w fun e w' => e = .returned (.tuple #[.pointer (some ⟨b, 0, none⟩), .int .i64 0]) ∧ Below w.heap.size w w' := by
  have hm := (ArS.at_mem hat).1
  have hn := (h.ar.node hm).2
  have FI := hid (show ∀ w', Below w.heap.size w w' → Calls Try.prog 68 #[.pointer (some ⟨A, 0, none⟩), .agg #[.int .u32 i, .int .u32 l]] w' fun e w2 => e = .returned (.pointer (some ⟨b, 0, none⟩)) ∧ Below w'.heap.size w' w2 from fun w' hb => by
    have := find_any (h.ar.on hb) hl i l
    rw [hat] at this
    exact this)
  have HB1 := hid (show Below w.heap.size w (w.alloc (.cells #[.int .u32 i, .int .u32 l] 34)).drew from btr (ball w _) (below_drews rfl rfl rfl rfl))
  have q0 : w.cell? ⟨Q, 0, none⟩ = some (.pointer (some ⟨A, 0, none⟩)) := row_cell h.qr 0
  have hQ : Q < w.heap.size := row_lt h.qr
  have HN := hid hn
  have C4 := hid (show ∀ w4, Below w.heap.size w w4 → w4.cell? ⟨b, 4, none⟩ = some (.pointer (some ⟨Q, 0, none⟩)) from fun w4 hb => by rw [row_cell (row_on hn hb) 4]; simp [nrow, hq, pb])
  clear h hat hn hm hq HN
  go_enter Try.func71, Try.ntmps71
  go_wp2
  go_region_with (first | (go_at_call 68; refine (FI.out _ HB1.out).mono ?_; rintro e w4 ⟨rfl, hb⟩; have HB4 := hid (btr HB1.out hb); have c4 := C4.out w4 HB4.out; have e57 := neq_of_eq (eq57_same w4 Q); clear hb))
  all_goals try go_wp2
  all_goals go_ret2
  all_goals exact ⟨rfl, HB4.out⟩
set_option maxHeartbeats 1000000 in
set_option maxRecDepth 100000 in
/-- pass, where it was the first. -/
theorem pass_first {base : Nat} {w : World} {A Q : Nat} {s : ArS} {qs : QuS} (h : AQ base w A Q s qs) {b : Nat} (hb : b ∈ s.bs) {L : List Nat} (hc : Ch s.nd (s.nd b).be L) (hL : ∀ x ∈ L, x ∈ s.bs) (hn : L.Nodup) (hf : qs.fi = some b) :
    Calls Try.prog 72 #[.pointer (some ⟨Q, 0, none⟩), .pointer (some ⟨b, 0, none⟩)] w fun e w' => e = .returned (.tuple #[]) ∧ AQ base w' A Q s { qs with fi := fst s.nd L } ∧ Kq base w w' := by
  have NX := hid (next_any h.ar hb hc hL hn)
  obtain ⟨a1, k1⟩ := h.setQ 3 (pb (fst s.nd L)) { qs with fi := fst s.nd L } (by simp [qrow])
  have q3 : w.cell? ⟨Q, 3, none⟩ = some (.pointer (some ⟨b, 0, none⟩)) := by rw [row_cell h.qr 3]; simp [qrow, hf, pb]
  have f3 : w.frozen? ⟨Q, 3, none⟩ = false := frozen_of_row w Q 3 _ _ h.qr
  have HA := hid a1
  have HK := hid k1
  have e89 := eq89_same w b
  clear a1 k1 h hb hc hL hn hf
  cases hx : fst s.nd L with
  | none =>
    rw [hx] at HA HK NX
    simp only [pb] at HA HK NX
    go_enter Try.func72, Try.ntmps72
    go_wp2_with (first | (go_at_call 76; refine (NX.out).mono ?_; rintro e w1 ⟨rfl, rfl⟩))
    go_end0
    exact ⟨rfl, HA.out, HK.out⟩
  | some y =>
    rw [hx] at HA HK NX
    simp only [pb] at HA HK NX
    go_enter Try.func72, Try.ntmps72
    go_wp2_with (first | (go_at_call 76; refine (NX.out).mono ?_; rintro e w1 ⟨rfl, rfl⟩))
    go_end0
    exact ⟨rfl, HA.out, HK.out⟩
set_option maxHeartbeats 1000000 in
set_option maxRecDepth 100000 in
/-- pass, where it was not. -/
theorem pass_other {base : Nat} {w : World} {A Q : Nat} {s : ArS} {qs : QuS} (h : AQ base w A Q s qs) {b : Nat} (hb : b ∈ s.bs) (hf : ¬ qs.fi = some b) (hfi : ∀ y, qs.fi = some y → y ∈ s.bs) :
    Calls Try.prog 72 #[.pointer (some ⟨Q, 0, none⟩), .pointer (some ⟨b, 0, none⟩)] w fun e w' => e = .returned (.tuple #[]) ∧ w' = w := by
  have q3 : w.cell? ⟨Q, 3, none⟩ = some (pb qs.fi) := by rw [row_cell h.qr 3]; simp [qrow]
  have HH := hid h
  clear h
  cases hx : qs.fi with
  | none =>
    rw [hx] at q3
    simp only [pb] at q3
    clear hf hfi
    have en := eq89_nil w b
    go_enter Try.func72, Try.ntmps72
    go_wp2
    go_end0
    exact ⟨rfl, rfl⟩
  | some y =>
    rw [hx] at q3 hf
    simp only [pb] at q3
    have hne : ¬ y = b := fun e => hf (by rw [e])
    have e89 := eq89_other w hne (HH.out.ar.node (hfi y hx)).2 (HH.out.ar.node hb).2
    clear hf hfi
    go_enter Try.func72, Try.ntmps72
    go_wp2
    go_end0
    exact ⟨rfl, rfl⟩
end Go.Proofs.Ytecalelfofgfpaa
