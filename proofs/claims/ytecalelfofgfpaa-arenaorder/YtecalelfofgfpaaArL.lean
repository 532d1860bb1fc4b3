/-
  unlink, record by record.
-/
import Derived.Test.YtecalelfofgfpaaArK
namespace Go.Proofs.Ytecalelfofgfpaa
open Go.RowKit Go.Deep
set_option linter.unusedVariables false
set_option linter.unusedSimpArgs false

def setBe (nd : Nat → Nd) (a e : Option Nat) : Nat → Nd := match a with
  | none => nd
  | some x => upd nd x { nd x with be := e }
def setAh (nd : Nat → Nd) (e a : Option Nat) : Nat → Nd := match e with
  | none => nd
  | some y => upd nd y { nd y with ah := a }
def lone (n : Nd) : Nd := { n with q := none, dd := false, ah := none, be := none }
def unl (nd : Nat → Nd) (b : Nat) : Nat → Nd := upd (setAh (setBe nd (nd b).ah (nd b).be) (nd b).be (nd b).ah) b (lone (nd b))
def unq (qs : QuS) (n : Nd) (fi : Option Nat) : QuS :=
  { fr := if n.ah = none then n.be else qs.fr, bk := if n.be = none then n.ah else qs.bk, fi := fi, lv := if n.dd = true then qs.lv else qs.lv - 1, dd := if n.dd = true then qs.dd - 1 else qs.dd }
theorem AQ.heap {base : Nat} {w w' : World} {A Q : Nat} {s : ArS} {qs : QuS} (h : AQ base w A Q s qs) (e : w'.heap = w.heap) : AQ base w' A Q s qs := by
  obtain ⟨⟨h0, ⟨sl, h1, h2⟩, h3, h4⟩, h5, h6⟩ := h
  refine ⟨⟨h0, ⟨sl, by rw [e]; exact h1, ?_⟩, h3, fun i hi => ⟨(h4 i hi).1, by rw [e]; exact (h4 i hi).2.1, (h4 i hi).2.2⟩⟩, h5, by rw [e]; exact h6⟩
  obtain ⟨r1, r2⟩ := h2
  refine ⟨r1, r2.imp id ?_⟩
  rintro ⟨g', cap, cur, e1, e2, hg', r⟩
  exact ⟨g', cap, cur, e1, e2, by rw [e]; exact hg', r⟩
theorem Kq.heap {base : Nat} {w w1 w' : World} (h : Kq base w w1) (e : w'.heap = w1.heap) (e1 : w'.os = w1.os) (e2 : w'.tape = w1.tape) (e3 : w'.output = w1.output) : Kq base w w' :=
  ⟨⟨e1.trans h.bel.os, e2.trans h.bel.tape, e3.trans h.bel.output, by rw [e]; exact h.bel.size, fun b hb => by rw [e]; exact h.bel.block b hb⟩, by rw [e]; exact h.size, fun b o hb ho h2 => by rw [e]; exact h.obj b o hb ho h2⟩
theorem setCell_drew (w : World) (a : Addr) (v : Value) : w.drew.setCell a v = (w.setCell a v).drew := rfl
theorem heap_drew (w : World) : w.drew.heap = w.heap := rfl
theorem os_drew (w : World) : w.drew.os = w.os := rfl
theorem tape_drew (w : World) : w.drew.tape = w.tape := rfl
theorem output_drew (w : World) : w.drew.output = w.output := rfl
/-- what unlink starts from. -/
structure Un (base : Nat) (w : World) (A Q : Nat) (s : ArS) (qs : QuS) (b : Nat) : Prop where
  aq : AQ base w A Q s qs
  mem : b ∈ s.bs
  ah : ∀ x, (s.nd b).ah = some x → x ∈ s.bs ∧ ¬ x = b
  be : ∀ x, (s.nd b).be = some x → x ∈ s.bs ∧ ¬ x = b
  two : ∀ x y, (s.nd b).ah = some x → (s.nd b).be = some y → ¬ x = y
  lv : (s.nd b).dd = false → 1 ≤ qs.lv
  dd : (s.nd b).dd = true → 1 ≤ qs.dd
  lv2 : qs.lv ≤ 65536
  dd2 : qs.dd ≤ 65536
set_option maxHeartbeats 1000000 in
set_option maxRecDepth 100000 in
theorem unlink_nnl {base : Nat} {w : World} {A Q : Nat} {s : ArS} {qs : QuS} {b : Nat} (h : Un base w A Q s qs b) (fi : Option Nat) (ha : (s.nd b).ah = none) (he : (s.nd b).be = none) (hd : (s.nd b).dd = false)
    (hp : Calls Try.prog 72 #[.pointer (some ⟨Q, 0, none⟩), .pointer (some ⟨b, 0, none⟩)] w fun e w' => e = .returned (.tuple #[]) ∧ AQ base w' A Q s { qs with fi := fi } ∧ Kq base w w') :
    Calls Try.prog 73 #[.pointer (some ⟨Q, 0, none⟩), .pointer (some ⟨b, 0, none⟩)] w fun e w' => e = .returned (.tuple #[]) ∧ AQ base w' A Q { s with nd := unl s.nd b } (unq qs (s.nd b) fi) ∧ Kq base w w' := by
  have hl1 := h.lv hd
  have hl2 := h.lv2
  have hl3 := h.dd2
  have hm := h.mem
  have HP := hid hp
  clear hp h
  go_enter Try.func73, Try.ntmps73
  go_wp2_with (first | (go_at_call 72; refine (HP.out).mono ?_; rintro e w1 ⟨rfl, haq, hkp⟩; refine Hid.out ?_))
  obtain ⟨a1, k1⟩ := haq.setQ 1 (.pointer none) { qs with fi := fi, fr := none } (by simp [qrow, pb])
  obtain ⟨a2, k2⟩ := a1.setQ 2 (.pointer none) { qs with fi := fi, fr := none, bk := none } (by simp [qrow, pb])
  obtain ⟨a3, k3⟩ := a2.setQ 4 (.int .i64 ((qs.lv : Int) - 1)) { qs with fi := fi, fr := none, bk := none, lv := qs.lv - 1 } (by simp [qrow]; omega)
  have hnb : s.nd b = s.nd b := by rfl
  obtain ⟨a4, k4⟩ := a3.setNode hm 4 (.pointer none) { s.nd b with q := none } (by simp [nrow, pb]) (by simp)
  obtain ⟨a5, k5⟩ := a4.setNode hm 5 (.bool false) { s.nd b with q := none, dd := false } (by simp [nrow, upd_same]) (by simp [upd_same])
  obtain ⟨a6, k6⟩ := a5.setNode hm 6 (.pointer none) { s.nd b with q := none, dd := false, ah := none } (by simp [nrow, pb, upd_same]) (by simp [upd_same])
  obtain ⟨a7, k7⟩ := a6.setNode hm 7 (.pointer none) (lone (s.nd b)) (by simp [nrow, pb, upd_same, lone]) (by simp [upd_same, lone])
  have hu : unl s.nd b = upd s.nd b (lone (s.nd b)) := by unfold unl; rw [ha, he]; rfl
  have hq : unq qs (s.nd b) fi = { qs with fi := fi, fr := none, bk := none, lv := qs.lv - 1 } := by unfold unq; rw [ha, he, hd]; simp
  have FIN := hid (show AQ base _ A Q { s with nd := unl s.nd b } (unq qs (s.nd b) fi) from by rw [hu, hq]; simpa only [upd_upd] using a7)
  have FK := hid (hkp.trans ((((((k1.trans k2).trans k3).trans k4).trans k5).trans k6).trans k7))
  have hnB := (haq.ar.node hm).2
  have hQ := haq.qr
  have nQb := haq.neN hm
  have nbQ : ¬ b = Q := fun e => nQb e.symm
  have c6 : w1.cell? ⟨b, 6, none⟩ = some (.pointer none) := by rw [row_cell hnB 6]; simp [nrow, ha, pb]
  have c7 : w1.cell? ⟨b, 7, none⟩ = some (.pointer none) := by rw [row_cell hnB 7]; simp [nrow, he, pb]
  have c5 : w1.cell? ⟨b, 5, none⟩ = some (.bool false) := by rw [row_cell hnB 5]; simp [nrow, hd]
  have c4 : ∃ u, w1.cell? ⟨b, 4, none⟩ = some u := ⟨_, row_cell hnB 4⟩
  obtain ⟨u4, c4⟩ := c4
  have fb4 : w1.frozen? ⟨b, 4, none⟩ = false := frozen_of_row w1 b 4 _ _ hnB
  have fb5 : w1.frozen? ⟨b, 5, none⟩ = false := frozen_of_row w1 b 5 _ _ hnB
  have fb6 : w1.frozen? ⟨b, 6, none⟩ = false := frozen_of_row w1 b 6 _ _ hnB
  have fb7 : w1.frozen? ⟨b, 7, none⟩ = false := frozen_of_row w1 b 7 _ _ hnB
  have q4 : w1.cell? ⟨Q, 4, none⟩ = some (.int .i64 qs.lv) := by rw [row_cell hQ 4]; simp [qrow]
  have q5 : w1.cell? ⟨Q, 5, none⟩ = some (.int .i64 qs.dd) := by rw [row_cell hQ 5]; simp [qrow]
  have fq4 : w1.frozen? ⟨Q, 4, none⟩ = false := frozen_of_row w1 Q 4 _ _ hQ
  have fq5 : w1.frozen? ⟨Q, 5, none⟩ = false := frozen_of_row w1 Q 5 _ _ hQ
  have i1 : (1 : Int) ≤ (qs.lv : Int) := by omega
  have i2 : (qs.lv : Int) ≤ 65536 := by omega
  have q1 : ∃ u, w1.cell? ⟨Q, 1, none⟩ = some u := ⟨_, row_cell hQ 1⟩
  obtain ⟨v1, q1⟩ := q1
  have fq1 : w1.frozen? ⟨Q, 1, none⟩ = false := frozen_of_row w1 Q 1 _ _ hQ
  have q2 : ∃ u, w1.cell? ⟨Q, 2, none⟩ = some u := ⟨_, row_cell hQ 2⟩
  obtain ⟨v2, q2⟩ := q2
  have fq2 : w1.frozen? ⟨Q, 2, none⟩ = false := frozen_of_row w1 Q 2 _ _ hQ
  clear a1 k1 a2 k2 a3 k3 a4 k4 a5 k5 a6 k6 a7 k7 hu hq hnb hnB hQ haq hkp HP ha he hd hm hl1 hl2 hl3
  refine hid ?_
  go_wp2
  all_goals go_end0
  all_goals try simp only [setCell_drew]
  all_goals exact ⟨by first | rfl | trivial, FIN.out.heap (by simp only [heap_drew]), FK.out.heap (by simp only [heap_drew]) (by simp only [os_drew]) (by simp only [tape_drew]) (by simp only [output_drew])⟩
set_option maxHeartbeats 1000000 in
set_option maxRecDepth 100000 in
theorem unlink_nnd {base : Nat} {w : World} {A Q : Nat} {s : ArS} {qs : QuS} {b : Nat} (h : Un base w A Q s qs b) (fi : Option Nat) (ha : (s.nd b).ah = none) (he : (s.nd b).be = none) (hd : (s.nd b).dd = true)
    (hp : Calls Try.prog 72 #[.pointer (some ⟨Q, 0, none⟩), .pointer (some ⟨b, 0, none⟩)] w fun e w' => e = .returned (.tuple #[]) ∧ AQ base w' A Q s { qs with fi := fi } ∧ Kq base w w') :
    Calls Try.prog 73 #[.pointer (some ⟨Q, 0, none⟩), .pointer (some ⟨b, 0, none⟩)] w fun e w' => e = .returned (.tuple #[]) ∧ AQ base w' A Q { s with nd := unl s.nd b } (unq qs (s.nd b) fi) ∧ Kq base w w' := by
  have hl1 := h.dd hd
  have hl2 := h.lv2
  have hl3 := h.dd2
  have hm := h.mem
  have HP := hid hp
  clear hp h
  go_enter Try.func73, Try.ntmps73
  go_wp2_with (first | (go_at_call 72; refine (HP.out).mono ?_; rintro e w1 ⟨rfl, haq, hkp⟩; refine Hid.out ?_))
  obtain ⟨a1, k1⟩ := haq.setQ 1 (.pointer none) { qs with fi := fi, fr := none } (by simp [qrow, pb])
  obtain ⟨a2, k2⟩ := a1.setQ 2 (.pointer none) { qs with fi := fi, fr := none, bk := none } (by simp [qrow, pb])
  obtain ⟨a3, k3⟩ := a2.setQ 5 (.int .i64 ((qs.dd : Int) - 1)) { qs with fi := fi, fr := none, bk := none, dd := qs.dd - 1 } (by simp [qrow]; omega)
  have hnb : s.nd b = s.nd b := by rfl
  obtain ⟨a4, k4⟩ := a3.setNode hm 4 (.pointer none) { s.nd b with q := none } (by simp [nrow, pb]) (by simp)
  obtain ⟨a5, k5⟩ := a4.setNode hm 5 (.bool false) { s.nd b with q := none, dd := false } (by simp [nrow, upd_same]) (by simp [upd_same])
  obtain ⟨a6, k6⟩ := a5.setNode hm 6 (.pointer none) { s.nd b with q := none, dd := false, ah := none } (by simp [nrow, pb, upd_same]) (by simp [upd_same])
  obtain ⟨a7, k7⟩ := a6.setNode hm 7 (.pointer none) (lone (s.nd b)) (by simp [nrow, pb, upd_same, lone]) (by simp [upd_same, lone])
  have hu : unl s.nd b = upd s.nd b (lone (s.nd b)) := by unfold unl; rw [ha, he]; rfl
  have hq : unq qs (s.nd b) fi = { qs with fi := fi, fr := none, bk := none, dd := qs.dd - 1 } := by unfold unq; rw [ha, he, hd]; simp
  have FIN := hid (show AQ base _ A Q { s with nd := unl s.nd b } (unq qs (s.nd b) fi) from by rw [hu, hq]; simpa only [upd_upd] using a7)
  have FK := hid (hkp.trans ((((((k1.trans k2).trans k3).trans k4).trans k5).trans k6).trans k7))
  have hnB := (haq.ar.node hm).2
  have hQ := haq.qr
  have nQb := haq.neN hm
  have nbQ : ¬ b = Q := fun e => nQb e.symm
  have c6 : w1.cell? ⟨b, 6, none⟩ = some (.pointer none) := by rw [row_cell hnB 6]; simp [nrow, ha, pb]
  have c7 : w1.cell? ⟨b, 7, none⟩ = some (.pointer none) := by rw [row_cell hnB 7]; simp [nrow, he, pb]
  have c5 : w1.cell? ⟨b, 5, none⟩ = some (.bool true) := by rw [row_cell hnB 5]; simp [nrow, hd]
  have c4 : ∃ u, w1.cell? ⟨b, 4, none⟩ = some u := ⟨_, row_cell hnB 4⟩
  obtain ⟨u4, c4⟩ := c4
  have fb4 : w1.frozen? ⟨b, 4, none⟩ = false := frozen_of_row w1 b 4 _ _ hnB
  have fb5 : w1.frozen? ⟨b, 5, none⟩ = false := frozen_of_row w1 b 5 _ _ hnB
  have fb6 : w1.frozen? ⟨b, 6, none⟩ = false := frozen_of_row w1 b 6 _ _ hnB
  have fb7 : w1.frozen? ⟨b, 7, none⟩ = false := frozen_of_row w1 b 7 _ _ hnB
  have q4 : w1.cell? ⟨Q, 4, none⟩ = some (.int .i64 qs.lv) := by rw [row_cell hQ 4]; simp [qrow]
  have q5 : w1.cell? ⟨Q, 5, none⟩ = some (.int .i64 qs.dd) := by rw [row_cell hQ 5]; simp [qrow]
  have fq4 : w1.frozen? ⟨Q, 4, none⟩ = false := frozen_of_row w1 Q 4 _ _ hQ
  have fq5 : w1.frozen? ⟨Q, 5, none⟩ = false := frozen_of_row w1 Q 5 _ _ hQ
  have i1 : (1 : Int) ≤ (qs.dd : Int) := by omega
  have i2 : (qs.dd : Int) ≤ 65536 := by omega
  have q1 : ∃ u, w1.cell? ⟨Q, 1, none⟩ = some u := ⟨_, row_cell hQ 1⟩
  obtain ⟨v1, q1⟩ := q1
  have fq1 : w1.frozen? ⟨Q, 1, none⟩ = false := frozen_of_row w1 Q 1 _ _ hQ
  have q2 : ∃ u, w1.cell? ⟨Q, 2, none⟩ = some u := ⟨_, row_cell hQ 2⟩
  obtain ⟨v2, q2⟩ := q2
  have fq2 : w1.frozen? ⟨Q, 2, none⟩ = false := frozen_of_row w1 Q 2 _ _ hQ
  clear a1 k1 a2 k2 a3 k3 a4 k4 a5 k5 a6 k6 a7 k7 hu hq hnb hnB hQ haq hkp HP ha he hd hm hl1 hl2 hl3
  refine hid ?_
  go_wp2
  all_goals go_end0
  all_goals try simp only [setCell_drew]
  all_goals exact ⟨by first | rfl | trivial, FIN.out.heap (by simp only [heap_drew]), FK.out.heap (by simp only [heap_drew]) (by simp only [os_drew]) (by simp only [tape_drew]) (by simp only [output_drew])⟩
set_option maxHeartbeats 1000000 in
set_option maxRecDepth 100000 in
theorem unlink_snl {base : Nat} {w : World} {A Q : Nat} {s : ArS} {qs : QuS} {b : Nat} (h : Un base w A Q s qs b) (fi : Option Nat) (x : Nat) (ha : (s.nd b).ah = some x) (he : (s.nd b).be = none) (hd : (s.nd b).dd = false)
    (hp : Calls Try.prog 72 #[.pointer (some ⟨Q, 0, none⟩), .pointer (some ⟨b, 0, none⟩)] w fun e w' => e = .returned (.tuple #[]) ∧ AQ base w' A Q s { qs with fi := fi } ∧ Kq base w w') :
    Calls Try.prog 73 #[.pointer (some ⟨Q, 0, none⟩), .pointer (some ⟨b, 0, none⟩)] w fun e w' => e = .returned (.tuple #[]) ∧ AQ base w' A Q { s with nd := unl s.nd b } (unq qs (s.nd b) fi) ∧ Kq base w w' := by
  have hx := h.ah x ha
  have hl1 := h.lv hd
  have hl2 := h.lv2
  have hl3 := h.dd2
  have hm := h.mem
  have HP := hid hp
  clear hp h
  go_enter Try.func73, Try.ntmps73
  go_wp2_with (first | (go_at_call 72; refine (HP.out).mono ?_; rintro e w1 ⟨rfl, haq, hkp⟩; refine Hid.out ?_))
  obtain ⟨a1, k1⟩ := haq.setNode hx.1 7 (.pointer none) { s.nd x with be := none } (by simp [nrow, pb]) rfl
  obtain ⟨a2, k2⟩ := a1.setQ 2 (.pointer (some ⟨x, 0, none⟩)) { qs with fi := fi, bk := some x } (by simp [qrow, pb])
  obtain ⟨a3, k3⟩ := a2.setQ 4 (.int .i64 ((qs.lv : Int) - 1)) { qs with fi := fi, bk := some x, lv := qs.lv - 1 } (by simp [qrow]; omega)
  have hnb : (upd s.nd x { s.nd x with be := none }) b = s.nd b := by simp only [upd_other _ _ _ _ (fun e => hx.2 e.symm)]
  obtain ⟨a4, k4⟩ := a3.setNode hm 4 (.pointer none) { s.nd b with q := none } (by simp [nrow, pb, upd_other _ _ _ _ (fun e => hx.2 e.symm)]) (by simp [upd_other _ _ _ _ (fun e => hx.2 e.symm)])
  obtain ⟨a5, k5⟩ := a4.setNode hm 5 (.bool false) { s.nd b with q := none, dd := false } (by simp [nrow, upd_same]) (by simp [upd_same])
  obtain ⟨a6, k6⟩ := a5.setNode hm 6 (.pointer none) { s.nd b with q := none, dd := false, ah := none } (by simp [nrow, pb, upd_same]) (by simp [upd_same])
  obtain ⟨a7, k7⟩ := a6.setNode hm 7 (.pointer none) (lone (s.nd b)) (by simp [nrow, pb, upd_same, lone]) (by simp [upd_same, lone])
  have hu : unl s.nd b = upd (upd s.nd x { s.nd x with be := none }) b (lone (s.nd b)) := by unfold unl; rw [ha, he]; rfl
  have hq : unq qs (s.nd b) fi = { qs with fi := fi, bk := some x, lv := qs.lv - 1 } := by unfold unq; rw [ha, he, hd]; simp
  have FIN := hid (show AQ base _ A Q { s with nd := unl s.nd b } (unq qs (s.nd b) fi) from by rw [hu, hq]; simpa only [upd_upd] using a7)
  have FK := hid (hkp.trans ((((((k1.trans k2).trans k3).trans k4).trans k5).trans k6).trans k7))
  have hnB := (haq.ar.node hm).2
  have hQ := haq.qr
  have nQb := haq.neN hm
  have nbQ : ¬ b = Q := fun e => nQb e.symm
  have hnX := (haq.ar.node hx.1).2
  have nQx := haq.neN hx.1
  have nxQ : ¬ x = Q := fun e => nQx e.symm
  have nxb := hx.2
  have nbx : ¬ b = x := fun e => nxb e.symm
  have c6 : w1.cell? ⟨b, 6, none⟩ = some (.pointer (some ⟨x, 0, none⟩)) := by rw [row_cell hnB 6]; simp [nrow, ha, pb]
  have c7 : w1.cell? ⟨b, 7, none⟩ = some (.pointer none) := by rw [row_cell hnB 7]; simp [nrow, he, pb]
  have c5 : w1.cell? ⟨b, 5, none⟩ = some (.bool false) := by rw [row_cell hnB 5]; simp [nrow, hd]
  have c4 : ∃ u, w1.cell? ⟨b, 4, none⟩ = some u := ⟨_, row_cell hnB 4⟩
  obtain ⟨u4, c4⟩ := c4
  have fb4 : w1.frozen? ⟨b, 4, none⟩ = false := frozen_of_row w1 b 4 _ _ hnB
  have fb5 : w1.frozen? ⟨b, 5, none⟩ = false := frozen_of_row w1 b 5 _ _ hnB
  have fb6 : w1.frozen? ⟨b, 6, none⟩ = false := frozen_of_row w1 b 6 _ _ hnB
  have fb7 : w1.frozen? ⟨b, 7, none⟩ = false := frozen_of_row w1 b 7 _ _ hnB
  have q4 : w1.cell? ⟨Q, 4, none⟩ = some (.int .i64 qs.lv) := by rw [row_cell hQ 4]; simp [qrow]
  have q5 : w1.cell? ⟨Q, 5, none⟩ = some (.int .i64 qs.dd) := by rw [row_cell hQ 5]; simp [qrow]
  have fq4 : w1.frozen? ⟨Q, 4, none⟩ = false := frozen_of_row w1 Q 4 _ _ hQ
  have fq5 : w1.frozen? ⟨Q, 5, none⟩ = false := frozen_of_row w1 Q 5 _ _ hQ
  have i1 : (1 : Int) ≤ (qs.lv : Int) := by omega
  have i2 : (qs.lv : Int) ≤ 65536 := by omega
  have x7 : ∃ u, w1.cell? ⟨x, 7, none⟩ = some u := ⟨_, row_cell hnX 7⟩
  obtain ⟨u7, x7⟩ := x7
  have fx7 : w1.frozen? ⟨x, 7, none⟩ = false := frozen_of_row w1 x 7 _ _ hnX
  have q2 : ∃ u, w1.cell? ⟨Q, 2, none⟩ = some u := ⟨_, row_cell hQ 2⟩
  obtain ⟨v2, q2⟩ := q2
  have fq2 : w1.frozen? ⟨Q, 2, none⟩ = false := frozen_of_row w1 Q 2 _ _ hQ
  clear a1 k1 a2 k2 a3 k3 a4 k4 a5 k5 a6 k6 a7 k7 hu hq hnb hnB hQ haq hkp HP ha he hd hm hl1 hl2 hl3 hx hnX
  refine hid ?_
  go_wp2
  go_region
  all_goals try go_wp2
  all_goals go_end0
  all_goals try simp only [setCell_drew]
  all_goals exact ⟨by first | rfl | trivial, FIN.out.heap (by simp only [heap_drew]), FK.out.heap (by simp only [heap_drew]) (by simp only [os_drew]) (by simp only [tape_drew]) (by simp only [output_drew])⟩
set_option maxHeartbeats 1000000 in
set_option maxRecDepth 100000 in
theorem unlink_snd {base : Nat} {w : World} {A Q : Nat} {s : ArS} {qs : QuS} {b : Nat} (h : Un base w A Q s qs b) (fi : Option Nat) (x : Nat) (ha : (s.nd b).ah = some x) (he : (s.nd b).be = none) (hd : (s.nd b).dd = true)
    (hp : Calls Try.prog 72 #[.pointer (some ⟨Q, 0, none⟩), .pointer (some ⟨b, 0, none⟩)] w fun e w' => e = .returned (.tuple #[]) ∧ AQ base w' A Q s { qs with fi := fi } ∧ Kq base w w') :
    Calls Try.prog 73 #[.pointer (some ⟨Q, 0, none⟩), .pointer (some ⟨b, 0, none⟩)] w fun e w' => e = .returned (.tuple #[]) ∧ AQ base w' A Q { s with nd := unl s.nd b } (unq qs (s.nd b) fi) ∧ Kq base w w' := by
  have hx := h.ah x ha
  have hl1 := h.dd hd
  have hl2 := h.lv2
  have hl3 := h.dd2
  have hm := h.mem
  have HP := hid hp
  clear hp h
  go_enter Try.func73, Try.ntmps73
  go_wp2_with (first | (go_at_call 72; refine (HP.out).mono ?_; rintro e w1 ⟨rfl, haq, hkp⟩; refine Hid.out ?_))
  obtain ⟨a1, k1⟩ := haq.setNode hx.1 7 (.pointer none) { s.nd x with be := none } (by simp [nrow, pb]) rfl
  obtain ⟨a2, k2⟩ := a1.setQ 2 (.pointer (some ⟨x, 0, none⟩)) { qs with fi := fi, bk := some x } (by simp [qrow, pb])
  obtain ⟨a3, k3⟩ := a2.setQ 5 (.int .i64 ((qs.dd : Int) - 1)) { qs with fi := fi, bk := some x, dd := qs.dd - 1 } (by simp [qrow]; omega)
  have hnb : (upd s.nd x { s.nd x with be := none }) b = s.nd b := by simp only [upd_other _ _ _ _ (fun e => hx.2 e.symm)]
  obtain ⟨a4, k4⟩ := a3.setNode hm 4 (.pointer none) { s.nd b with q := none } (by simp [nrow, pb, upd_other _ _ _ _ (fun e => hx.2 e.symm)]) (by simp [upd_other _ _ _ _ (fun e => hx.2 e.symm)])
  obtain ⟨a5, k5⟩ := a4.setNode hm 5 (.bool false) { s.nd b with q := none, dd := false } (by simp [nrow, upd_same]) (by simp [upd_same])
  obtain ⟨a6, k6⟩ := a5.setNode hm 6 (.pointer none) { s.nd b with q := none, dd := false, ah := none } (by simp [nrow, pb, upd_same]) (by simp [upd_same])
  obtain ⟨a7, k7⟩ := a6.setNode hm 7 (.pointer none) (lone (s.nd b)) (by simp [nrow, pb, upd_same, lone]) (by simp [upd_same, lone])
  have hu : unl s.nd b = upd (upd s.nd x { s.nd x with be := none }) b (lone (s.nd b)) := by unfold unl; rw [ha, he]; rfl
  have hq : unq qs (s.nd b) fi = { qs with fi := fi, bk := some x, dd := qs.dd - 1 } := by unfold unq; rw [ha, he, hd]; simp
  have FIN := hid (show AQ base _ A Q { s with nd := unl s.nd b } (unq qs (s.nd b) fi) from by rw [hu, hq]; simpa only [upd_upd] using a7)
  have FK := hid (hkp.trans ((((((k1.trans k2).trans k3).trans k4).trans k5).trans k6).trans k7))
  have hnB := (haq.ar.node hm).2
  have hQ := haq.qr
  have nQb := haq.neN hm
  have nbQ : ¬ b = Q := fun e => nQb e.symm
  have hnX := (haq.ar.node hx.1).2
  have nQx := haq.neN hx.1
  have nxQ : ¬ x = Q := fun e => nQx e.symm
  have nxb := hx.2
  have nbx : ¬ b = x := fun e => nxb e.symm
  have c6 : w1.cell? ⟨b, 6, none⟩ = some (.pointer (some ⟨x, 0, none⟩)) := by rw [row_cell hnB 6]; simp [nrow, ha, pb]
  have c7 : w1.cell? ⟨b, 7, none⟩ = some (.pointer none) := by rw [row_cell hnB 7]; simp [nrow, he, pb]
  have c5 : w1.cell? ⟨b, 5, none⟩ = some (.bool true) := by rw [row_cell hnB 5]; simp [nrow, hd]
  have c4 : ∃ u, w1.cell? ⟨b, 4, none⟩ = some u := ⟨_, row_cell hnB 4⟩
  obtain ⟨u4, c4⟩ := c4
  have fb4 : w1.frozen? ⟨b, 4, none⟩ = false := frozen_of_row w1 b 4 _ _ hnB
  have fb5 : w1.frozen? ⟨b, 5, none⟩ = false := frozen_of_row w1 b 5 _ _ hnB
  have fb6 : w1.frozen? ⟨b, 6, none⟩ = false := frozen_of_row w1 b 6 _ _ hnB
  have fb7 : w1.frozen? ⟨b, 7, none⟩ = false := frozen_of_row w1 b 7 _ _ hnB
  have q4 : w1.cell? ⟨Q, 4, none⟩ = some (.int .i64 qs.lv) := by rw [row_cell hQ 4]; simp [qrow]
  have q5 : w1.cell? ⟨Q, 5, none⟩ = some (.int .i64 qs.dd) := by rw [row_cell hQ 5]; simp [qrow]
  have fq4 : w1.frozen? ⟨Q, 4, none⟩ = false := frozen_of_row w1 Q 4 _ _ hQ
  have fq5 : w1.frozen? ⟨Q, 5, none⟩ = false := frozen_of_row w1 Q 5 _ _ hQ
  have i1 : (1 : Int) ≤ (qs.dd : Int) := by omega
  have i2 : (qs.dd : Int) ≤ 65536 := by omega
  have x7 : ∃ u, w1.cell? ⟨x, 7, none⟩ = some u := ⟨_, row_cell hnX 7⟩
  obtain ⟨u7, x7⟩ := x7
  have fx7 : w1.frozen? ⟨x, 7, none⟩ = false := frozen_of_row w1 x 7 _ _ hnX
  have q2 : ∃ u, w1.cell? ⟨Q, 2, none⟩ = some u := ⟨_, row_cell hQ 2⟩
  obtain ⟨v2, q2⟩ := q2
  have fq2 : w1.frozen? ⟨Q, 2, none⟩ = false := frozen_of_row w1 Q 2 _ _ hQ
  clear a1 k1 a2 k2 a3 k3 a4 k4 a5 k5 a6 k6 a7 k7 hu hq hnb hnB hQ haq hkp HP ha he hd hm hl1 hl2 hl3 hx hnX
  refine hid ?_
  go_wp2
  go_region
  all_goals try go_wp2
  all_goals go_end0
  all_goals try simp only [setCell_drew]
  all_goals exact ⟨by first | rfl | trivial, FIN.out.heap (by simp only [heap_drew]), FK.out.heap (by simp only [heap_drew]) (by simp only [os_drew]) (by simp only [tape_drew]) (by simp only [output_drew])⟩
set_option maxHeartbeats 1000000 in
set_option maxRecDepth 100000 in
theorem unlink_nsl {base : Nat} {w : World} {A Q : Nat} {s : ArS} {qs : QuS} {b : Nat} (h : Un base w A Q s qs b) (fi : Option Nat) (y : Nat) (ha : (s.nd b).ah = none) (he : (s.nd b).be = some y) (hd : (s.nd b).dd = false)
    (hp : Calls Try.prog 72 #[.pointer (some ⟨Q, 0, none⟩), .pointer (some ⟨b, 0, none⟩)] w fun e w' => e = .returned (.tuple #[]) ∧ AQ base w' A Q s { qs with fi := fi } ∧ Kq base w w') :
    Calls Try.prog 73 #[.pointer (some ⟨Q, 0, none⟩), .pointer (some ⟨b, 0, none⟩)] w fun e w' => e = .returned (.tuple #[]) ∧ AQ base w' A Q { s with nd := unl s.nd b } (unq qs (s.nd b) fi) ∧ Kq base w w' := by
  have hy := h.be y he
  have hl1 := h.lv hd
  have hl2 := h.lv2
  have hl3 := h.dd2
  have hm := h.mem
  have HP := hid hp
  clear hp h
  go_enter Try.func73, Try.ntmps73
  go_wp2_with (first | (go_at_call 72; refine (HP.out).mono ?_; rintro e w1 ⟨rfl, haq, hkp⟩; refine Hid.out ?_))
  obtain ⟨a1, k1⟩ := haq.setQ 1 (.pointer (some ⟨y, 0, none⟩)) { qs with fi := fi, fr := some y } (by simp [qrow, pb])
  obtain ⟨a2, k2⟩ := a1.setNode hy.1 6 (.pointer none) { s.nd y with ah := none } (by simp [nrow, pb]) rfl
  obtain ⟨a3, k3⟩ := a2.setQ 4 (.int .i64 ((qs.lv : Int) - 1)) { qs with fi := fi, fr := some y, lv := qs.lv - 1 } (by simp [qrow]; omega)
  have hnb : (upd s.nd y { s.nd y with ah := none }) b = s.nd b := by simp only [upd_other _ _ _ _ (fun e => hy.2 e.symm)]
  obtain ⟨a4, k4⟩ := a3.setNode hm 4 (.pointer none) { s.nd b with q := none } (by simp [nrow, pb, upd_other _ _ _ _ (fun e => hy.2 e.symm)]) (by simp [upd_other _ _ _ _ (fun e => hy.2 e.symm)])
  obtain ⟨a5, k5⟩ := a4.setNode hm 5 (.bool false) { s.nd b with q := none, dd := false } (by simp [nrow, upd_same]) (by simp [upd_same])
  obtain ⟨a6, k6⟩ := a5.setNode hm 6 (.pointer none) { s.nd b with q := none, dd := false, ah := none } (by simp [nrow, pb, upd_same]) (by simp [upd_same])
  obtain ⟨a7, k7⟩ := a6.setNode hm 7 (.pointer none) (lone (s.nd b)) (by simp [nrow, pb, upd_same, lone]) (by simp [upd_same, lone])
  have hu : unl s.nd b = upd (upd s.nd y { s.nd y with ah := none }) b (lone (s.nd b)) := by unfold unl; rw [ha, he]; rfl
  have hq : unq qs (s.nd b) fi = { qs with fi := fi, fr := some y, lv := qs.lv - 1 } := by unfold unq; rw [ha, he, hd]; simp
  have FIN := hid (show AQ base _ A Q { s with nd := unl s.nd b } (unq qs (s.nd b) fi) from by rw [hu, hq]; simpa only [upd_upd] using a7)
  have FK := hid (hkp.trans ((((((k1.trans k2).trans k3).trans k4).trans k5).trans k6).trans k7))
  have hnB := (haq.ar.node hm).2
  have hQ := haq.qr
  have nQb := haq.neN hm
  have nbQ : ¬ b = Q := fun e => nQb e.symm
  have hnY := (haq.ar.node hy.1).2
  have nQy := haq.neN hy.1
  have nyQ : ¬ y = Q := fun e => nQy e.symm
  have nyb := hy.2
  have nby : ¬ b = y := fun e => nyb e.symm
  have c6 : w1.cell? ⟨b, 6, none⟩ = some (.pointer none) := by rw [row_cell hnB 6]; simp [nrow, ha, pb]
  have c7 : w1.cell? ⟨b, 7, none⟩ = some (.pointer (some ⟨y, 0, none⟩)) := by rw [row_cell hnB 7]; simp [nrow, he, pb]
  have c5 : w1.cell? ⟨b, 5, none⟩ = some (.bool false) := by rw [row_cell hnB 5]; simp [nrow, hd]
  have c4 : ∃ u, w1.cell? ⟨b, 4, none⟩ = some u := ⟨_, row_cell hnB 4⟩
  obtain ⟨u4, c4⟩ := c4
  have fb4 : w1.frozen? ⟨b, 4, none⟩ = false := frozen_of_row w1 b 4 _ _ hnB
  have fb5 : w1.frozen? ⟨b, 5, none⟩ = false := frozen_of_row w1 b 5 _ _ hnB
  have fb6 : w1.frozen? ⟨b, 6, none⟩ = false := frozen_of_row w1 b 6 _ _ hnB
  have fb7 : w1.frozen? ⟨b, 7, none⟩ = false := frozen_of_row w1 b 7 _ _ hnB
  have q4 : w1.cell? ⟨Q, 4, none⟩ = some (.int .i64 qs.lv) := by rw [row_cell hQ 4]; simp [qrow]
  have q5 : w1.cell? ⟨Q, 5, none⟩ = some (.int .i64 qs.dd) := by rw [row_cell hQ 5]; simp [qrow]
  have fq4 : w1.frozen? ⟨Q, 4, none⟩ = false := frozen_of_row w1 Q 4 _ _ hQ
  have fq5 : w1.frozen? ⟨Q, 5, none⟩ = false := frozen_of_row w1 Q 5 _ _ hQ
  have i1 : (1 : Int) ≤ (qs.lv : Int) := by omega
  have i2 : (qs.lv : Int) ≤ 65536 := by omega
  have q1 : ∃ u, w1.cell? ⟨Q, 1, none⟩ = some u := ⟨_, row_cell hQ 1⟩
  obtain ⟨v1, q1⟩ := q1
  have fq1 : w1.frozen? ⟨Q, 1, none⟩ = false := frozen_of_row w1 Q 1 _ _ hQ
  have y6 : ∃ u, w1.cell? ⟨y, 6, none⟩ = some u := ⟨_, row_cell hnY 6⟩
  obtain ⟨u6, y6⟩ := y6
  have fy6 : w1.frozen? ⟨y, 6, none⟩ = false := frozen_of_row w1 y 6 _ _ hnY
  clear a1 k1 a2 k2 a3 k3 a4 k4 a5 k5 a6 k6 a7 k7 hu hq hnb hnB hQ haq hkp HP ha he hd hm hl1 hl2 hl3 hy hnY
  refine hid ?_
  go_wp2
  go_region
  all_goals try go_wp2
  all_goals go_end0
  all_goals try simp only [setCell_drew]
  all_goals exact ⟨by first | rfl | trivial, FIN.out.heap (by simp only [heap_drew]), FK.out.heap (by simp only [heap_drew]) (by simp only [os_drew]) (by simp only [tape_drew]) (by simp only [output_drew])⟩
set_option maxHeartbeats 1000000 in
set_option maxRecDepth 100000 in
theorem unlink_nsd {base : Nat} {w : World} {A Q : Nat} {s : ArS} {qs : QuS} {b : Nat} (h : Un base w A Q s qs b) (fi : Option Nat) (y : Nat) (ha : (s.nd b).ah = none) (he : (s.nd b).be = some y) (hd : (s.nd b).dd = true)
    (hp : Calls Try.prog 72 #[.pointer (some ⟨Q, 0, none⟩), .pointer (some ⟨b, 0, none⟩)] w fun e w' => e = .returned (.tuple #[]) ∧ AQ base w' A Q s { qs with fi := fi } ∧ Kq base w w') :
    Calls Try.prog 73 #[.pointer (some ⟨Q, 0, none⟩), .pointer (some ⟨b, 0, none⟩)] w fun e w' => e = .returned (.tuple #[]) ∧ AQ base w' A Q { s with nd := unl s.nd b } (unq qs (s.nd b) fi) ∧ Kq base w w' := by
  have hy := h.be y he
  have hl1 := h.dd hd
  have hl2 := h.lv2
  have hl3 := h.dd2
  have hm := h.mem
  have HP := hid hp
  clear hp h
  go_enter Try.func73, Try.ntmps73
  go_wp2_with (first | (go_at_call 72; refine (HP.out).mono ?_; rintro e w1 ⟨rfl, haq, hkp⟩; refine Hid.out ?_))
  obtain ⟨a1, k1⟩ := haq.setQ 1 (.pointer (some ⟨y, 0, none⟩)) { qs with fi := fi, fr := some y } (by simp [qrow, pb])
  obtain ⟨a2, k2⟩ := a1.setNode hy.1 6 (.pointer none) { s.nd y with ah := none } (by simp [nrow, pb]) rfl
  obtain ⟨a3, k3⟩ := a2.setQ 5 (.int .i64 ((qs.dd : Int) - 1)) { qs with fi := fi, fr := some y, dd := qs.dd - 1 } (by simp [qrow]; omega)
  have hnb : (upd s.nd y { s.nd y with ah := none }) b = s.nd b := by simp only [upd_other _ _ _ _ (fun e => hy.2 e.symm)]
  obtain ⟨a4, k4⟩ := a3.setNode hm 4 (.pointer none) { s.nd b with q := none } (by simp [nrow, pb, upd_other _ _ _ _ (fun e => hy.2 e.symm)]) (by simp [upd_other _ _ _ _ (fun e => hy.2 e.symm)])
  obtain ⟨a5, k5⟩ := a4.setNode hm 5 (.bool false) { s.nd b with q := none, dd := false } (by simp [nrow, upd_same]) (by simp [upd_same])
  obtain ⟨a6, k6⟩ := a5.setNode hm 6 (.pointer none) { s.nd b with q := none, dd := false, ah := none } (by simp [nrow, pb, upd_same]) (by simp [upd_same])
  obtain ⟨a7, k7⟩ := a6.setNode hm 7 (.pointer none) (lone (s.nd b)) (by simp [nrow, pb, upd_same, lone]) (by simp [upd_same, lone])
  have hu : unl s.nd b = upd (upd s.nd y { s.nd y with ah := none }) b (lone (s.nd b)) := by unfold unl; rw [ha, he]; rfl
  have hq : unq qs (s.nd b) fi = { qs with fi := fi, fr := some y, dd := qs.dd - 1 } := by unfold unq; rw [ha, he, hd]; simp
  have FIN := hid (show AQ base _ A Q { s with nd := unl s.nd b } (unq qs (s.nd b) fi) from by rw [hu, hq]; simpa only [upd_upd] using a7)
  have FK := hid (hkp.trans ((((((k1.trans k2).trans k3).trans k4).trans k5).trans k6).trans k7))
  have hnB := (haq.ar.node hm).2
  have hQ := haq.qr
  have nQb := haq.neN hm
  have nbQ : ¬ b = Q := fun e => nQb e.symm
  have hnY := (haq.ar.node hy.1).2
  have nQy := haq.neN hy.1
  have nyQ : ¬ y = Q := fun e => nQy e.symm
  have nyb := hy.2
  have nby : ¬ b = y := fun e => nyb e.symm
  have c6 : w1.cell? ⟨b, 6, none⟩ = some (.pointer none) := by rw [row_cell hnB 6]; simp [nrow, ha, pb]
  have c7 : w1.cell? ⟨b, 7, none⟩ = some (.pointer (some ⟨y, 0, none⟩)) := by rw [row_cell hnB 7]; simp [nrow, he, pb]
  have c5 : w1.cell? ⟨b, 5, none⟩ = some (.bool true) := by rw [row_cell hnB 5]; simp [nrow, hd]
  have c4 : ∃ u, w1.cell? ⟨b, 4, none⟩ = some u := ⟨_, row_cell hnB 4⟩
  obtain ⟨u4, c4⟩ := c4
  have fb4 : w1.frozen? ⟨b, 4, none⟩ = false := frozen_of_row w1 b 4 _ _ hnB
  have fb5 : w1.frozen? ⟨b, 5, none⟩ = false := frozen_of_row w1 b 5 _ _ hnB
  have fb6 : w1.frozen? ⟨b, 6, none⟩ = false := frozen_of_row w1 b 6 _ _ hnB
  have fb7 : w1.frozen? ⟨b, 7, none⟩ = false := frozen_of_row w1 b 7 _ _ hnB
  have q4 : w1.cell? ⟨Q, 4, none⟩ = some (.int .i64 qs.lv) := by rw [row_cell hQ 4]; simp [qrow]
  have q5 : w1.cell? ⟨Q, 5, none⟩ = some (.int .i64 qs.dd) := by rw [row_cell hQ 5]; simp [qrow]
  have fq4 : w1.frozen? ⟨Q, 4, none⟩ = false := frozen_of_row w1 Q 4 _ _ hQ
  have fq5 : w1.frozen? ⟨Q, 5, none⟩ = false := frozen_of_row w1 Q 5 _ _ hQ
  have i1 : (1 : Int) ≤ (qs.dd : Int) := by omega
  have i2 : (qs.dd : Int) ≤ 65536 := by omega
  have q1 : ∃ u, w1.cell? ⟨Q, 1, none⟩ = some u := ⟨_, row_cell hQ 1⟩
  obtain ⟨v1, q1⟩ := q1
  have fq1 : w1.frozen? ⟨Q, 1, none⟩ = false := frozen_of_row w1 Q 1 _ _ hQ
  have y6 : ∃ u, w1.cell? ⟨y, 6, none⟩ = some u := ⟨_, row_cell hnY 6⟩
  obtain ⟨u6, y6⟩ := y6
  have fy6 : w1.frozen? ⟨y, 6, none⟩ = false := frozen_of_row w1 y 6 _ _ hnY
  clear a1 k1 a2 k2 a3 k3 a4 k4 a5 k5 a6 k6 a7 k7 hu hq hnb hnB hQ haq hkp HP ha he hd hm hl1 hl2 hl3 hy hnY
  refine hid ?_
  go_wp2
  go_region
  all_goals try go_wp2
  all_goals go_end0
  all_goals try simp only [setCell_drew]
  all_goals exact ⟨by first | rfl | trivial, FIN.out.heap (by simp only [heap_drew]), FK.out.heap (by simp only [heap_drew]) (by simp only [os_drew]) (by simp only [tape_drew]) (by simp only [output_drew])⟩
set_option maxHeartbeats 1000000 in
set_option maxRecDepth 100000 in
theorem unlink_ssl {base : Nat} {w : World} {A Q : Nat} {s : ArS} {qs : QuS} {b : Nat} (h : Un base w A Q s qs b) (fi : Option Nat) (x : Nat) (y : Nat) (ha : (s.nd b).ah = some x) (he : (s.nd b).be = some y) (hd : (s.nd b).dd = false)
    (hp : Calls Try.prog 72 #[.pointer (some ⟨Q, 0, none⟩), .pointer (some ⟨b, 0, none⟩)] w fun e w' => e = .returned (.tuple #[]) ∧ AQ base w' A Q s { qs with fi := fi } ∧ Kq base w w') :
    Calls Try.prog 73 #[.pointer (some ⟨Q, 0, none⟩), .pointer (some ⟨b, 0, none⟩)] w fun e w' => e = .returned (.tuple #[]) ∧ AQ base w' A Q { s with nd := unl s.nd b } (unq qs (s.nd b) fi) ∧ Kq base w w' := by
  have hx := h.ah x ha
  have hy := h.be y he
  have hxy := h.two x y ha he
  have hyx : ¬ y = x := fun e => hxy e.symm
  have hl1 := h.lv hd
  have hl2 := h.lv2
  have hl3 := h.dd2
  have hm := h.mem
  have HP := hid hp
  clear hp h
  go_enter Try.func73, Try.ntmps73
  go_wp2_with (first | (go_at_call 72; refine (HP.out).mono ?_; rintro e w1 ⟨rfl, haq, hkp⟩; refine Hid.out ?_))
  obtain ⟨a1, k1⟩ := haq.setNode hx.1 7 (.pointer (some ⟨y, 0, none⟩)) { s.nd x with be := some y } (by simp [nrow, pb]) rfl
  obtain ⟨a2, k2⟩ := a1.setNode hy.1 6 (.pointer (some ⟨x, 0, none⟩)) { s.nd y with ah := some x } (by simp [nrow, pb, upd_other _ _ _ _ hyx]) (by simp [upd_other _ _ _ _ hyx])
  obtain ⟨a3, k3⟩ := a2.setQ 4 (.int .i64 ((qs.lv : Int) - 1)) { qs with fi := fi, lv := qs.lv - 1 } (by simp [qrow]; omega)
  have hnb : (upd (upd s.nd x { s.nd x with be := some y }) y { s.nd y with ah := some x }) b = s.nd b := by simp only [upd_other _ _ _ _ (fun e => hy.2 e.symm), upd_other _ _ _ _ (fun e => hx.2 e.symm)]
  obtain ⟨a4, k4⟩ := a3.setNode hm 4 (.pointer none) { s.nd b with q := none } (by simp [nrow, pb, upd_other _ _ _ _ (fun e => hy.2 e.symm), upd_other _ _ _ _ (fun e => hx.2 e.symm)]) (by simp [upd_other _ _ _ _ (fun e => hy.2 e.symm), upd_other _ _ _ _ (fun e => hx.2 e.symm)])
  obtain ⟨a5, k5⟩ := a4.setNode hm 5 (.bool false) { s.nd b with q := none, dd := false } (by simp [nrow, upd_same]) (by simp [upd_same])
  obtain ⟨a6, k6⟩ := a5.setNode hm 6 (.pointer none) { s.nd b with q := none, dd := false, ah := none } (by simp [nrow, pb, upd_same]) (by simp [upd_same])
  obtain ⟨a7, k7⟩ := a6.setNode hm 7 (.pointer none) (lone (s.nd b)) (by simp [nrow, pb, upd_same, lone]) (by simp [upd_same, lone])
  have hu : unl s.nd b = upd (upd (upd s.nd x { s.nd x with be := some y }) y { s.nd y with ah := some x }) b (lone (s.nd b)) := by unfold unl; rw [ha, he]; simp only [setBe, setAh, upd_other _ _ _ _ hyx]
  have hq : unq qs (s.nd b) fi = { qs with fi := fi, lv := qs.lv - 1 } := by unfold unq; rw [ha, he, hd]; simp
  have FIN := hid (show AQ base _ A Q { s with nd := unl s.nd b } (unq qs (s.nd b) fi) from by rw [hu, hq]; simpa only [upd_upd] using a7)
  have FK := hid (hkp.trans ((((((k1.trans k2).trans k3).trans k4).trans k5).trans k6).trans k7))
  have hnB := (haq.ar.node hm).2
  have hQ := haq.qr
  have nQb := haq.neN hm
  have nbQ : ¬ b = Q := fun e => nQb e.symm
  have hnX := (haq.ar.node hx.1).2
  have nQx := haq.neN hx.1
  have nxQ : ¬ x = Q := fun e => nQx e.symm
  have nxb := hx.2
  have nbx : ¬ b = x := fun e => nxb e.symm
  have hnY := (haq.ar.node hy.1).2
  have nQy := haq.neN hy.1
  have nyQ : ¬ y = Q := fun e => nQy e.symm
  have nyb := hy.2
  have nby : ¬ b = y := fun e => nyb e.symm
  have c6 : w1.cell? ⟨b, 6, none⟩ = some (.pointer (some ⟨x, 0, none⟩)) := by rw [row_cell hnB 6]; simp [nrow, ha, pb]
  have c7 : w1.cell? ⟨b, 7, none⟩ = some (.pointer (some ⟨y, 0, none⟩)) := by rw [row_cell hnB 7]; simp [nrow, he, pb]
  have c5 : w1.cell? ⟨b, 5, none⟩ = some (.bool false) := by rw [row_cell hnB 5]; simp [nrow, hd]
  have c4 : ∃ u, w1.cell? ⟨b, 4, none⟩ = some u := ⟨_, row_cell hnB 4⟩
  obtain ⟨u4, c4⟩ := c4
  have fb4 : w1.frozen? ⟨b, 4, none⟩ = false := frozen_of_row w1 b 4 _ _ hnB
  have fb5 : w1.frozen? ⟨b, 5, none⟩ = false := frozen_of_row w1 b 5 _ _ hnB
  have fb6 : w1.frozen? ⟨b, 6, none⟩ = false := frozen_of_row w1 b 6 _ _ hnB
  have fb7 : w1.frozen? ⟨b, 7, none⟩ = false := frozen_of_row w1 b 7 _ _ hnB
  have q4 : w1.cell? ⟨Q, 4, none⟩ = some (.int .i64 qs.lv) := by rw [row_cell hQ 4]; simp [qrow]
  have q5 : w1.cell? ⟨Q, 5, none⟩ = some (.int .i64 qs.dd) := by rw [row_cell hQ 5]; simp [qrow]
  have fq4 : w1.frozen? ⟨Q, 4, none⟩ = false := frozen_of_row w1 Q 4 _ _ hQ
  have fq5 : w1.frozen? ⟨Q, 5, none⟩ = false := frozen_of_row w1 Q 5 _ _ hQ
  have i1 : (1 : Int) ≤ (qs.lv : Int) := by omega
  have i2 : (qs.lv : Int) ≤ 65536 := by omega
  have x7 : ∃ u, w1.cell? ⟨x, 7, none⟩ = some u := ⟨_, row_cell hnX 7⟩
  obtain ⟨u7, x7⟩ := x7
  have fx7 : w1.frozen? ⟨x, 7, none⟩ = false := frozen_of_row w1 x 7 _ _ hnX
  have y6 : ∃ u, w1.cell? ⟨y, 6, none⟩ = some u := ⟨_, row_cell hnY 6⟩
  obtain ⟨u6, y6⟩ := y6
  have fy6 : w1.frozen? ⟨y, 6, none⟩ = false := frozen_of_row w1 y 6 _ _ hnY
  clear a1 k1 a2 k2 a3 k3 a4 k4 a5 k5 a6 k6 a7 k7 hu hq hnb hnB hQ haq hkp HP ha he hd hm hl1 hl2 hl3 hx hnX hy hnY
  refine hid ?_
  go_wp2
  go_region
  all_goals try go_wp2
  go_region
  all_goals try go_wp2
  all_goals go_end0
  all_goals try simp only [setCell_drew]
  all_goals exact ⟨by first | rfl | trivial, FIN.out.heap (by simp only [heap_drew]), FK.out.heap (by simp only [heap_drew]) (by simp only [os_drew]) (by simp only [tape_drew]) (by simp only [output_drew])⟩
set_option maxHeartbeats 1000000 in
set_option maxRecDepth 100000 in
theorem unlink_ssd {base : Nat} {w : World} {A Q : Nat} {s : ArS} {qs : QuS} {b : Nat} (h : Un base w A Q s qs b) (fi : Option Nat) (x : Nat) (y : Nat) (ha : (s.nd b).ah = some x) (he : (s.nd b).be = some y) (hd : (s.nd b).dd = true)
    (hp : Calls Try.prog 72 #[.pointer (some ⟨Q, 0, none⟩), .pointer (some ⟨b, 0, none⟩)] w fun e w' => e = .returned (.tuple #[]) ∧ AQ base w' A Q s { qs with fi := fi } ∧ Kq base w w') :
    Calls Try.prog 73 #[.pointer (some ⟨Q, 0, none⟩), .pointer (some ⟨b, 0, none⟩)] w fun e w' => e = .returned (.tuple #[]) ∧ AQ base w' A Q { s with nd := unl s.nd b } (unq qs (s.nd b) fi) ∧ Kq base w w' := by
  have hx := h.ah x ha
  have hy := h.be y he
  have hxy := h.two x y ha he
  have hyx : ¬ y = x := fun e => hxy e.symm
  have hl1 := h.dd hd
  have hl2 := h.lv2
  have hl3 := h.dd2
  have hm := h.mem
  have HP := hid hp
  clear hp h
  go_enter Try.func73, Try.ntmps73
  go_wp2_with (first | (go_at_call 72; refine (HP.out).mono ?_; rintro e w1 ⟨rfl, haq, hkp⟩; refine Hid.out ?_))
  obtain ⟨a1, k1⟩ := haq.setNode hx.1 7 (.pointer (some ⟨y, 0, none⟩)) { s.nd x with be := some y } (by simp [nrow, pb]) rfl
  obtain ⟨a2, k2⟩ := a1.setNode hy.1 6 (.pointer (some ⟨x, 0, none⟩)) { s.nd y with ah := some x } (by simp [nrow, pb, upd_other _ _ _ _ hyx]) (by simp [upd_other _ _ _ _ hyx])
  obtain ⟨a3, k3⟩ := a2.setQ 5 (.int .i64 ((qs.dd : Int) - 1)) { qs with fi := fi, dd := qs.dd - 1 } (by simp [qrow]; omega)
  have hnb : (upd (upd s.nd x { s.nd x with be := some y }) y { s.nd y with ah := some x }) b = s.nd b := by simp only [upd_other _ _ _ _ (fun e => hy.2 e.symm), upd_other _ _ _ _ (fun e => hx.2 e.symm)]
  obtain ⟨a4, k4⟩ := a3.setNode hm 4 (.pointer none) { s.nd b with q := none } (by simp [nrow, pb, upd_other _ _ _ _ (fun e => hy.2 e.symm), upd_other _ _ _ _ (fun e => hx.2 e.symm)]) (by simp [upd_other _ _ _ _ (fun e => hy.2 e.symm), upd_other _ _ _ _ (fun e => hx.2 e.symm)])
  obtain ⟨a5, k5⟩ := a4.setNode hm 5 (.bool false) { s.nd b with q := none, dd := false } (by simp [nrow, upd_same]) (by simp [upd_same])
  obtain ⟨a6, k6⟩ := a5.setNode hm 6 (.pointer none) { s.nd b with q := none, dd := false, ah := none } (by simp [nrow, pb, upd_same]) (by simp [upd_same])
  obtain ⟨a7, k7⟩ := a6.setNode hm 7 (.pointer none) (lone (s.nd b)) (by simp [nrow, pb, upd_same, lone]) (by simp [upd_same, lone])
  have hu : unl s.nd b = upd (upd (upd s.nd x { s.nd x with be := some y }) y { s.nd y with ah := some x }) b (lone (s.nd b)) := by unfold unl; rw [ha, he]; simp only [setBe, setAh, upd_other _ _ _ _ hyx]
  have hq : unq qs (s.nd b) fi = { qs with fi := fi, dd := qs.dd - 1 } := by unfold unq; rw [ha, he, hd]; simp
  have FIN := hid (show AQ base _ A Q { s with nd := unl s.nd b } (unq qs (s.nd b) fi) from by rw [hu, hq]; simpa only [upd_upd] using a7)
  have FK := hid (hkp.trans ((((((k1.trans k2).trans k3).trans k4).trans k5).trans k6).trans k7))
  have hnB := (haq.ar.node hm).2
  have hQ := haq.qr
  have nQb := haq.neN hm
  have nbQ : ¬ b = Q := fun e => nQb e.symm
  have hnX := (haq.ar.node hx.1).2
  have nQx := haq.neN hx.1
  have nxQ : ¬ x = Q := fun e => nQx e.symm
  have nxb := hx.2
  have nbx : ¬ b = x := fun e => nxb e.symm
  have hnY := (haq.ar.node hy.1).2
  have nQy := haq.neN hy.1
  have nyQ : ¬ y = Q := fun e => nQy e.symm
  have nyb := hy.2
  have nby : ¬ b = y := fun e => nyb e.symm
  have c6 : w1.cell? ⟨b, 6, none⟩ = some (.pointer (some ⟨x, 0, none⟩)) := by rw [row_cell hnB 6]; simp [nrow, ha, pb]
  have c7 : w1.cell? ⟨b, 7, none⟩ = some (.pointer (some ⟨y, 0, none⟩)) := by rw [row_cell hnB 7]; simp [nrow, he, pb]
  have c5 : w1.cell? ⟨b, 5, none⟩ = some (.bool true) := by rw [row_cell hnB 5]; simp [nrow, hd]
  have c4 : ∃ u, w1.cell? ⟨b, 4, none⟩ = some u := ⟨_, row_cell hnB 4⟩
  obtain ⟨u4, c4⟩ := c4
  have fb4 : w1.frozen? ⟨b, 4, none⟩ = false := frozen_of_row w1 b 4 _ _ hnB
  have fb5 : w1.frozen? ⟨b, 5, none⟩ = false := frozen_of_row w1 b 5 _ _ hnB
  have fb6 : w1.frozen? ⟨b, 6, none⟩ = false := frozen_of_row w1 b 6 _ _ hnB
  have fb7 : w1.frozen? ⟨b, 7, none⟩ = false := frozen_of_row w1 b 7 _ _ hnB
  have q4 : w1.cell? ⟨Q, 4, none⟩ = some (.int .i64 qs.lv) := by rw [row_cell hQ 4]; simp [qrow]
  have q5 : w1.cell? ⟨Q, 5, none⟩ = some (.int .i64 qs.dd) := by rw [row_cell hQ 5]; simp [qrow]
  have fq4 : w1.frozen? ⟨Q, 4, none⟩ = false := frozen_of_row w1 Q 4 _ _ hQ
  have fq5 : w1.frozen? ⟨Q, 5, none⟩ = false := frozen_of_row w1 Q 5 _ _ hQ
  have i1 : (1 : Int) ≤ (qs.dd : Int) := by omega
  have i2 : (qs.dd : Int) ≤ 65536 := by omega
  have x7 : ∃ u, w1.cell? ⟨x, 7, none⟩ = some u := ⟨_, row_cell hnX 7⟩
  obtain ⟨u7, x7⟩ := x7
  have fx7 : w1.frozen? ⟨x, 7, none⟩ = false := frozen_of_row w1 x 7 _ _ hnX
  have y6 : ∃ u, w1.cell? ⟨y, 6, none⟩ = some u := ⟨_, row_cell hnY 6⟩
  obtain ⟨u6, y6⟩ := y6
  have fy6 : w1.frozen? ⟨y, 6, none⟩ = false := frozen_of_row w1 y 6 _ _ hnY
  clear a1 k1 a2 k2 a3 k3 a4 k4 a5 k5 a6 k6 a7 k7 hu hq hnb hnB hQ haq hkp HP ha he hd hm hl1 hl2 hl3 hx hnX hy hnY
  refine hid ?_
  go_wp2
  go_region
  all_goals try go_wp2
  go_region
  all_goals try go_wp2
  all_goals go_end0
  all_goals try simp only [setCell_drew]
  all_goals exact ⟨by first | rfl | trivial, FIN.out.heap (by simp only [heap_drew]), FK.out.heap (by simp only [heap_drew]) (by simp only [os_drew]) (by simp only [tape_drew]) (by simp only [output_drew])⟩
theorem unlink_any {base : Nat} {w : World} {A Q : Nat} {s : ArS} {qs : QuS} {b : Nat} (h : Un base w A Q s qs b) (fi : Option Nat)
    (hp : Calls Try.prog 72 #[.pointer (some ⟨Q, 0, none⟩), .pointer (some ⟨b, 0, none⟩)] w fun e w' => e = .returned (.tuple #[]) ∧ AQ base w' A Q s { qs with fi := fi } ∧ Kq base w w') :
    Calls Try.prog 73 #[.pointer (some ⟨Q, 0, none⟩), .pointer (some ⟨b, 0, none⟩)] w fun e w' => e = .returned (.tuple #[]) ∧ AQ base w' A Q { s with nd := unl s.nd b } (unq qs (s.nd b) fi) ∧ Kq base w w' := by
  cases ha : (s.nd b).ah with
  | none =>
    cases he : (s.nd b).be with
    | none =>
      cases hd : (s.nd b).dd with
      | false => exact unlink_nnl h fi ha he hd hp
      | true => exact unlink_nnd h fi ha he hd hp
    | some y =>
      cases hd : (s.nd b).dd with
      | false => exact unlink_nsl h fi y ha he hd hp
      | true => exact unlink_nsd h fi y ha he hd hp
  | some x =>
    cases he : (s.nd b).be with
    | none =>
      cases hd : (s.nd b).dd with
      | false => exact unlink_snl h fi x ha he hd hp
      | true => exact unlink_snd h fi x ha he hd hp
    | some y =>
      cases hd : (s.nd b).dd with
      | false => exact unlink_ssl h fi x y ha he hd hp
      | true => exact unlink_ssd h fi x y ha he hd hp
end Go.Proofs.Ytecalelfofgfpaa
