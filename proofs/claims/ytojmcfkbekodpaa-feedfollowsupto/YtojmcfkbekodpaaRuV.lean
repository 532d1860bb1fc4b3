/-
  RuV
-/
import Derived.Test.YtojmcfkbekodpaaRuU
namespace Go.Proofs.Ytojmcfkbekodpaa
open Go.RowKit Go.Deep Go.Shelf
set_option linter.unusedVariables false
set_option linter.unusedSimpArgs false
set_option maxHeartbeats 8000000
set_option maxRecDepth 100000
attribute [local go_sem ↓] Go.wp_at_zero Go.wp_at_succ
theorem Cg.fewer {w0 : World} {F : Nat → Prop} {T B O : Nat} {b b' : Bs} {ve : Value} {es es' : List Ev} {o : Or} {s q : Int} {w w' : World} (h : Cg w0 F T B O b ve es o s q w) (ht : Told w T B b' ve es' (cfp b T B ve (oth s)) w') (hp : b'.sp (oth s) = b.sp (oth s)) (hm : ∀ y ∈ b'.sl (oth s), y ∈ b.sl (oth s)) : ∃ ve', Cg w0 F T B O b' ve' es' o s q w' := by
  obtain ⟨ve', h1, h2, h3⟩ := ht
  have hin : ∀ j, cfp b T B ve (oth s) j → ffp b T B O ve s j := by
    rintro j (h' | h')
    · exact .inl h'
    · exact .inr (.inl h')
  refine ⟨ve', h1, h3.row h.ow ?_, h.keep h3 hin, fun j hj => ?_⟩
  · rintro (h' | h')
    · exact h.tn.neO h.ow h'
    · obtain ⟨c, e⟩ := (h.tn.bm.sli (oth s)).ty h'; exact row_ne h.ow e (by decide) rfl
  have sz := h.kp.size
  rcases hj with (e | e | e) | hj | hj | hj
  · exact h.fr j (.inl (.inl e))
  · exact h.fr j (.inl (.inr (.inl e)))
  · rcases h2 j e with h' | h'
    · exact h.fr j (.inl (.inr (.inr h')))
    · exact .inr (by omega)
  · exact h.fr j (.inr (.inl (by rw [← hp]; exact hj)))
  · obtain ⟨y, hy, rfl⟩ := List.mem_map.1 hj
    exact h.fr _ (.inr (.inr (.inl (List.mem_map.2 ⟨y, hm y hy, rfl⟩))))
  · exact h.fr j (.inr (.inr (.inr hj)))
/-- no two orders have one number. -/
def Ids (b : Bs) : Prop := ((b.l1 ++ b.l2).map (·.2.id)).Nodup
theorem fo_head {b : Bs} {S : Int} (hS : S = 1 ∨ S = 2) {f : Nat} {x : Or} {r : LO} (hi : Ids b) (hl : b.sl S = (f, x) :: r) : fo b x.id = (x, S, true) ∧ fnd x.id (b.sl S) = ((0 : Nat) : Int) := by
  have h0 : fnd x.id ((f, x) :: r) = 0 := by simp [fnd]
  unfold Ids at hi
  rw [List.map_append, List.nodup_append] at hi
  rcases hS with rfl | rfl
  · have e : b.l1 = (f, x) :: r := hl
    refine ⟨?_, by rw [hl]; exact h0⟩
    unfold fo
    have h1 : fnd x.id b.l1 = 0 := by rw [e]; exact h0
    rw [dif_pos (by omega)]
    have hx : ∀ h, (b.l1[0]'h) = (f, x) := by intro h; simp [e]
    simp only [h1, Int.toNat_zero, hx]
  · have e : b.l2 = (f, x) :: r := hl
    refine ⟨?_, by rw [hl]; exact h0⟩
    have h2 : fnd x.id b.l1 = -1 := fnd_none (fun y hy ee => hi.2.2 _ (List.mem_map.2 ⟨y, hy, rfl⟩) _ (List.mem_map.2 ⟨(f, x), by rw [e]; simp, rfl⟩) ee)
    have h1 : fnd x.id b.l2 = 0 := by rw [e]; exact h0
    unfold fo
    rw [dif_neg (by omega), dif_pos (by omega)]
    have hx : ∀ h, (b.l2[0]'h) = (f, x) := by intro h; simp [e]
    simp only [h1, Int.toNat_zero, hx]
theorem put_meet (b : Bs) (s : Int) (p : Option Addr) (c : Nat) (l : LO) : (b.put s p c l).meet = b.meet := by unfold Bs.put; split <;> rfl
/-- may two orders that meet not trade? -/
def prt (b : Bs) (o x : Or) : Bool := !(b.meet == 0 || o.mb == 0 || o.mb != x.mb)
/-- the book, what is told and what is left behind a meeting. -/
def mtB (b : Bs) (o : Or) (s q : Int) (f : Nat) (x : Or) (r : LO) : Bs × List Ev × Int :=
  if prt b o x = false then ((trb b x (min q x.vi)).put (oth s) (b.sp (oth s)) (b.sc (oth s)) (trl (oth s) f x r (min q x.vi)), tre b.seq o s x (min q x.vi), q - min q x.vi)
  else if b.meet = 1 then (b.told, [(evC o.id q 5).num (nx b.seq)], 0)
  else if b.meet = 2 then ((b.del (oth s) 0).told, [(evC x.id (x.vi + x.hi) 5).num (nx b.seq)], q)
  else ((b.del (oth s) 0).told.told, [(evC x.id (x.vi + x.hi) 5).num (nx b.seq), (evC o.id q 5).num (nx (nx b.seq))], 0)
theorem meet_a (w0 : World) (F : Nat → Prop) (T B O : Nat) (b : Bs) (ve : Value) (es : List Ev) (o : Or) (s q : Int) (f : Nat) (x : Or) (r : LO) (w : World) (h : Cg w0 F T B O b ve es o s q w) (hs : s = 1 ∨ s = 2) (hl : b.sl (oth s) = (f, x) :: r) (hq0 : 0 < q) (hq1 : q < 18446744073709551616) (hv0 : 0 < x.vi) (hh0 : 0 ≤ x.hi) (hv1 : x.vi + x.hi < 18446744073709551616) (hp0 : 0 ≤ x.pk) (hn : es.length + 1 ≤ 17179869184) (hln : b.l1.length + b.l2.length ≤ 1048576) (ho : Srt (oth s) (b.sl (oth s))) (hid' : Ids b) (a : (b.meet == 0) = true) :
    Calls Try.prog 75 #[.pointer (some ⟨T, 0, none⟩), .pointer (some ⟨O, 0, none⟩)] w fun e w' => e = .returned (.tuple #[]) ∧ ∃ ve', Cg w0 F T B O ((trb b x (min q x.vi)).put (oth s) (b.sp (oth s)) (b.sc (oth s)) (trl (oth s) f x r (min q x.vi))) ve' (es ++ tre b.seq o s x (min q x.vi)) o s (q - min q x.vi) w' := by
  obtain ⟨k, hk, hks⟩ : ∃ k : Nat, k < 2 ∧ oth s = (k : Int) + 1 := by
    rcases hs with rfl | rfl
    · exact ⟨1, by decide, rfl⟩
    · exact ⟨0, by decide, rfl⟩
  obtain ⟨S, hS⟩ : ∃ S, oth s = S := ⟨_, rfl⟩
  have hSS : S = 1 ∨ S = 2 := by rw [← hS]; exact oth_side hs
  have hli := h.tn.bm.sli S
  have HTR := hid (fun (U : World) (hU : Below w.heap.size w U) => trade_any w0 F T B O b ve es o s q (min q x.vi) f x r U (h.on hU) hs hl rfl hq0 hq1 hv0 (by omega) hh0 (by omega) hp0 hn hln ho)
  rw [hS] at hl ho hks
  have hfo := fo_head hSS hid' hl
  have HCC := hid (fun (U : World) (hU : Below w.heap.size w U) => (cancel_any T B b ve es x.id 5 x S k 0 U (h.on hU).tn (by omega) hln hks hk hfo.1 hfo.2 (by rw [IntKind.wrap_u64]; omega)).mono (R' := fun e w' => e = .returned (.tuple #[]) ∧ ∃ ve1, Cg w0 F T B O (b.del S 0).told ve1 (es ++ [(evC x.id (x.vi + x.hi) 5).num (nx b.seq)]) o s q w') (fun e w' hh => by
    refine ⟨hh.1, (h.on hU).fewer (by rw [hS]; exact hh.2) ?_ ?_⟩
    · rw [hS]; exact (b.put_sl S hSS _ _ _).2.1
    · rw [hS]
      intro y hy
      rw [show (b.del S 0).told.sl S = (b.sl S).eraseIdx 0 from (b.put_sl S hSS _ _ _).1] at hy
      exact List.mem_of_mem_eraseIdx hy))
  have HEN := hid (fun (U : World) (b' : Bs) (v' : Value) (e' : List Ev) (hl' : e'.length ≤ 17179869184) (hU : Cg w0 F T B O b' v' e' o s q U) => (end_any T B b' v' e' o.id q 5 U hU.tn hl').mono (R' := fun e w' => e = .returned (.tuple #[]) ∧ ∃ ve1, Cg w0 F T B O b'.told ve1 (e' ++ [(evC o.id q 5).num (nx b'.seq)]) o s q w') (fun e w' hh => ⟨hh.1, hU.told hh.2⟩))
  rw [hl] at hli
  obtain ⟨g, hp, hgc, hfr⟩ := hli.cell (i := 0) (by simp)
  simp only [List.getElem_cons_zero, pv] at hgc hfr
  have hbk := (row_cell h.tn.bm.row (2 + k)).trans (Bs.rowk hks hk)
  rw [hl, hp] at hbk
  obtain ⟨n, hnn⟩ : ∃ n, ((f, x) :: r : LO).length = n := ⟨_, rfl⟩
  have hn0 : 0 < n := by rw [← hnn]; simp
  rw [hnn] at hbk
  have t0 := row_cell h.tn.row 0
  have c1 := row_cell h.ow 1
  have c7 := row_cell h.ow 7
  have f0 := row_cell hfr 0
  have f1 := row_cell hfr 1
  have m1 := row_cell h.tn.bm.row 1
  simp only [crow, orow, Bs.row, List.getElem?_toArray, List.getElem?_cons_succ, List.getElem?_cons_zero] at t0 c1 c7 f0 f1 m1
  have CO := hid (fun U => other_any s U)
  rw [hS, hks] at CO
  have CS := hid (fun U => side_any B k U hk)
  have HCG := hid h
  have HSE := hid hS
  have HSS := hid hSS
  have HLE := hid (show es.length + 1 ≤ 17179869184 from hn)
  have HL := hid hl
  have HTO := hid (fun (U : World) (b' : Bs) (v' : Value) (e' : List Ev) (hm : b'.meet = b.meet) (hU : Cg w0 F T B O b' v' e' o s q U) => (show (U.cell? ⟨T, 0, none⟩ = some (.pointer (some ⟨B, 0, none⟩)) ∧ U.cell? ⟨B, 1, none⟩ = some (.int .i64 b.meet)) ∧ U.cell? ⟨O, 0, none⟩ = some (.int .u64 o.id) ∧ U.cell? ⟨O, 8, none⟩ = some (.int .u64 q) ∧ U.frozen? ⟨O, 8, none⟩ = false from by
    have a1 := row_cell hU.tn.row 0
    have a2 := row_cell hU.tn.bm.row 1
    have a3 := row_cell hU.ow 0
    have a4 := row_cell hU.ow 8
    simp only [crow, Bs.row, List.getElem?_toArray, List.getElem?_cons_succ, List.getElem?_cons_zero] at a1 a2 a3 a4
    rw [hm] at a2
    exact ⟨⟨a1, a2⟩, a3, a4, row_frz hU.ow 8⟩))
  clear h hks hl ho hp hfr hs hS hnn hli hSS hid' hfo hv0 hv1 hh0 hp0 hn hln
  go_enter Try.func75, Try.ntmps75
  go_wp2_with fail
  go_quiet ((first | (go_at_call 69; exact Calls.quiet_of_same (CO.out _)) | (go_at_call 35; exact Calls.quiet_of_same (CS.out _))))
  go_upto_region 1 with fail
  go_quiet (fail)
  go_wp2_with (go_at_call 87; with_reducible refine (HTR.out _ (by first | exact bdrew _ _ | exact btr (bdrew _ _) (bdrew _ _))).mono ?_; rintro e w2 ⟨rfl, h2⟩; have H2 := hid h2; clear h2)
  exact bodyPost_ret (results_none rfl _ _ _) rfl ⟨rfl, H2.out⟩
theorem meet_b (w0 : World) (F : Nat → Prop) (T B O : Nat) (b : Bs) (ve : Value) (es : List Ev) (o : Or) (s q : Int) (f : Nat) (x : Or) (r : LO) (w : World) (h : Cg w0 F T B O b ve es o s q w) (hs : s = 1 ∨ s = 2) (hl : b.sl (oth s) = (f, x) :: r) (hq0 : 0 < q) (hq1 : q < 18446744073709551616) (hv0 : 0 < x.vi) (hh0 : 0 ≤ x.hi) (hv1 : x.vi + x.hi < 18446744073709551616) (hp0 : 0 ≤ x.pk) (hn : es.length + 1 ≤ 17179869184) (hln : b.l1.length + b.l2.length ≤ 1048576) (ho : Srt (oth s) (b.sl (oth s))) (hid' : Ids b) (a : (b.meet == 0) = false) (c : (o.mb == 0) = true) :
    Calls Try.prog 75 #[.pointer (some ⟨T, 0, none⟩), .pointer (some ⟨O, 0, none⟩)] w fun e w' => e = .returned (.tuple #[]) ∧ ∃ ve', Cg w0 F T B O ((trb b x (min q x.vi)).put (oth s) (b.sp (oth s)) (b.sc (oth s)) (trl (oth s) f x r (min q x.vi))) ve' (es ++ tre b.seq o s x (min q x.vi)) o s (q - min q x.vi) w' := by
  obtain ⟨k, hk, hks⟩ : ∃ k : Nat, k < 2 ∧ oth s = (k : Int) + 1 := by
    rcases hs with rfl | rfl
    · exact ⟨1, by decide, rfl⟩
    · exact ⟨0, by decide, rfl⟩
  obtain ⟨S, hS⟩ : ∃ S, oth s = S := ⟨_, rfl⟩
  have hSS : S = 1 ∨ S = 2 := by rw [← hS]; exact oth_side hs
  have hli := h.tn.bm.sli S
  have HTR := hid (fun (U : World) (hU : Below w.heap.size w U) => trade_any w0 F T B O b ve es o s q (min q x.vi) f x r U (h.on hU) hs hl rfl hq0 hq1 hv0 (by omega) hh0 (by omega) hp0 hn hln ho)
  rw [hS] at hl ho hks
  have hfo := fo_head hSS hid' hl
  have HCC := hid (fun (U : World) (hU : Below w.heap.size w U) => (cancel_any T B b ve es x.id 5 x S k 0 U (h.on hU).tn (by omega) hln hks hk hfo.1 hfo.2 (by rw [IntKind.wrap_u64]; omega)).mono (R' := fun e w' => e = .returned (.tuple #[]) ∧ ∃ ve1, Cg w0 F T B O (b.del S 0).told ve1 (es ++ [(evC x.id (x.vi + x.hi) 5).num (nx b.seq)]) o s q w') (fun e w' hh => by
    refine ⟨hh.1, (h.on hU).fewer (by rw [hS]; exact hh.2) ?_ ?_⟩
    · rw [hS]; exact (b.put_sl S hSS _ _ _).2.1
    · rw [hS]
      intro y hy
      rw [show (b.del S 0).told.sl S = (b.sl S).eraseIdx 0 from (b.put_sl S hSS _ _ _).1] at hy
      exact List.mem_of_mem_eraseIdx hy))
  have HEN := hid (fun (U : World) (b' : Bs) (v' : Value) (e' : List Ev) (hl' : e'.length ≤ 17179869184) (hU : Cg w0 F T B O b' v' e' o s q U) => (end_any T B b' v' e' o.id q 5 U hU.tn hl').mono (R' := fun e w' => e = .returned (.tuple #[]) ∧ ∃ ve1, Cg w0 F T B O b'.told ve1 (e' ++ [(evC o.id q 5).num (nx b'.seq)]) o s q w') (fun e w' hh => ⟨hh.1, hU.told hh.2⟩))
  rw [hl] at hli
  obtain ⟨g, hp, hgc, hfr⟩ := hli.cell (i := 0) (by simp)
  simp only [List.getElem_cons_zero, pv] at hgc hfr
  have hbk := (row_cell h.tn.bm.row (2 + k)).trans (Bs.rowk hks hk)
  rw [hl, hp] at hbk
  obtain ⟨n, hnn⟩ : ∃ n, ((f, x) :: r : LO).length = n := ⟨_, rfl⟩
  have hn0 : 0 < n := by rw [← hnn]; simp
  rw [hnn] at hbk
  have t0 := row_cell h.tn.row 0
  have c1 := row_cell h.ow 1
  have c7 := row_cell h.ow 7
  have f0 := row_cell hfr 0
  have f1 := row_cell hfr 1
  have m1 := row_cell h.tn.bm.row 1
  simp only [crow, orow, Bs.row, List.getElem?_toArray, List.getElem?_cons_succ, List.getElem?_cons_zero] at t0 c1 c7 f0 f1 m1
  have CO := hid (fun U => other_any s U)
  rw [hS, hks] at CO
  have CS := hid (fun U => side_any B k U hk)
  have HCG := hid h
  have HSE := hid hS
  have HSS := hid hSS
  have HLE := hid (show es.length + 1 ≤ 17179869184 from hn)
  have HL := hid hl
  have HTO := hid (fun (U : World) (b' : Bs) (v' : Value) (e' : List Ev) (hm : b'.meet = b.meet) (hU : Cg w0 F T B O b' v' e' o s q U) => (show (U.cell? ⟨T, 0, none⟩ = some (.pointer (some ⟨B, 0, none⟩)) ∧ U.cell? ⟨B, 1, none⟩ = some (.int .i64 b.meet)) ∧ U.cell? ⟨O, 0, none⟩ = some (.int .u64 o.id) ∧ U.cell? ⟨O, 8, none⟩ = some (.int .u64 q) ∧ U.frozen? ⟨O, 8, none⟩ = false from by
    have a1 := row_cell hU.tn.row 0
    have a2 := row_cell hU.tn.bm.row 1
    have a3 := row_cell hU.ow 0
    have a4 := row_cell hU.ow 8
    simp only [crow, Bs.row, List.getElem?_toArray, List.getElem?_cons_succ, List.getElem?_cons_zero] at a1 a2 a3 a4
    rw [hm] at a2
    exact ⟨⟨a1, a2⟩, a3, a4, row_frz hU.ow 8⟩))
  clear h hks hl ho hp hfr hs hS hnn hli hSS hid' hfo hv0 hv1 hh0 hp0 hn hln
  go_enter Try.func75, Try.ntmps75
  go_wp2_with fail
  go_quiet ((first | (go_at_call 69; exact Calls.quiet_of_same (CO.out _)) | (go_at_call 35; exact Calls.quiet_of_same (CS.out _))))
  go_upto_region 1 with fail
  go_quiet (fail)
  go_wp2_with (go_at_call 87; with_reducible refine (HTR.out _ (by first | exact bdrew _ _ | exact btr (bdrew _ _) (bdrew _ _))).mono ?_; rintro e w2 ⟨rfl, h2⟩; have H2 := hid h2; clear h2)
  exact bodyPost_ret (results_none rfl _ _ _) rfl ⟨rfl, H2.out⟩
theorem meet_c (w0 : World) (F : Nat → Prop) (T B O : Nat) (b : Bs) (ve : Value) (es : List Ev) (o : Or) (s q : Int) (f : Nat) (x : Or) (r : LO) (w : World) (h : Cg w0 F T B O b ve es o s q w) (hs : s = 1 ∨ s = 2) (hl : b.sl (oth s) = (f, x) :: r) (hq0 : 0 < q) (hq1 : q < 18446744073709551616) (hv0 : 0 < x.vi) (hh0 : 0 ≤ x.hi) (hv1 : x.vi + x.hi < 18446744073709551616) (hp0 : 0 ≤ x.pk) (hn : es.length + 1 ≤ 17179869184) (hln : b.l1.length + b.l2.length ≤ 1048576) (ho : Srt (oth s) (b.sl (oth s))) (hid' : Ids b) (a : (b.meet == 0) = false) (c : (o.mb == 0) = false) (d : (o.mb != x.mb) = true) :
    Calls Try.prog 75 #[.pointer (some ⟨T, 0, none⟩), .pointer (some ⟨O, 0, none⟩)] w fun e w' => e = .returned (.tuple #[]) ∧ ∃ ve', Cg w0 F T B O ((trb b x (min q x.vi)).put (oth s) (b.sp (oth s)) (b.sc (oth s)) (trl (oth s) f x r (min q x.vi))) ve' (es ++ tre b.seq o s x (min q x.vi)) o s (q - min q x.vi) w' := by
  obtain ⟨k, hk, hks⟩ : ∃ k : Nat, k < 2 ∧ oth s = (k : Int) + 1 := by
    rcases hs with rfl | rfl
    · exact ⟨1, by decide, rfl⟩
    · exact ⟨0, by decide, rfl⟩
  obtain ⟨S, hS⟩ : ∃ S, oth s = S := ⟨_, rfl⟩
  have hSS : S = 1 ∨ S = 2 := by rw [← hS]; exact oth_side hs
  have hli := h.tn.bm.sli S
  have HTR := hid (fun (U : World) (hU : Below w.heap.size w U) => trade_any w0 F T B O b ve es o s q (min q x.vi) f x r U (h.on hU) hs hl rfl hq0 hq1 hv0 (by omega) hh0 (by omega) hp0 hn hln ho)
  rw [hS] at hl ho hks
  have hfo := fo_head hSS hid' hl
  have HCC := hid (fun (U : World) (hU : Below w.heap.size w U) => (cancel_any T B b ve es x.id 5 x S k 0 U (h.on hU).tn (by omega) hln hks hk hfo.1 hfo.2 (by rw [IntKind.wrap_u64]; omega)).mono (R' := fun e w' => e = .returned (.tuple #[]) ∧ ∃ ve1, Cg w0 F T B O (b.del S 0).told ve1 (es ++ [(evC x.id (x.vi + x.hi) 5).num (nx b.seq)]) o s q w') (fun e w' hh => by
    refine ⟨hh.1, (h.on hU).fewer (by rw [hS]; exact hh.2) ?_ ?_⟩
    · rw [hS]; exact (b.put_sl S hSS _ _ _).2.1
    · rw [hS]
      intro y hy
      rw [show (b.del S 0).told.sl S = (b.sl S).eraseIdx 0 from (b.put_sl S hSS _ _ _).1] at hy
      exact List.mem_of_mem_eraseIdx hy))
  have HEN := hid (fun (U : World) (b' : Bs) (v' : Value) (e' : List Ev) (hl' : e'.length ≤ 17179869184) (hU : Cg w0 F T B O b' v' e' o s q U) => (end_any T B b' v' e' o.id q 5 U hU.tn hl').mono (R' := fun e w' => e = .returned (.tuple #[]) ∧ ∃ ve1, Cg w0 F T B O b'.told ve1 (e' ++ [(evC o.id q 5).num (nx b'.seq)]) o s q w') (fun e w' hh => ⟨hh.1, hU.told hh.2⟩))
  rw [hl] at hli
  obtain ⟨g, hp, hgc, hfr⟩ := hli.cell (i := 0) (by simp)
  simp only [List.getElem_cons_zero, pv] at hgc hfr
  have hbk := (row_cell h.tn.bm.row (2 + k)).trans (Bs.rowk hks hk)
  rw [hl, hp] at hbk
  obtain ⟨n, hnn⟩ : ∃ n, ((f, x) :: r : LO).length = n := ⟨_, rfl⟩
  have hn0 : 0 < n := by rw [← hnn]; simp
  rw [hnn] at hbk
  have t0 := row_cell h.tn.row 0
  have c1 := row_cell h.ow 1
  have c7 := row_cell h.ow 7
  have f0 := row_cell hfr 0
  have f1 := row_cell hfr 1
  have m1 := row_cell h.tn.bm.row 1
  simp only [crow, orow, Bs.row, List.getElem?_toArray, List.getElem?_cons_succ, List.getElem?_cons_zero] at t0 c1 c7 f0 f1 m1
  have CO := hid (fun U => other_any s U)
  rw [hS, hks] at CO
  have CS := hid (fun U => side_any B k U hk)
  have HCG := hid h
  have HSE := hid hS
  have HSS := hid hSS
  have HLE := hid (show es.length + 1 ≤ 17179869184 from hn)
  have HL := hid hl
  have HTO := hid (fun (U : World) (b' : Bs) (v' : Value) (e' : List Ev) (hm : b'.meet = b.meet) (hU : Cg w0 F T B O b' v' e' o s q U) => (show (U.cell? ⟨T, 0, none⟩ = some (.pointer (some ⟨B, 0, none⟩)) ∧ U.cell? ⟨B, 1, none⟩ = some (.int .i64 b.meet)) ∧ U.cell? ⟨O, 0, none⟩ = some (.int .u64 o.id) ∧ U.cell? ⟨O, 8, none⟩ = some (.int .u64 q) ∧ U.frozen? ⟨O, 8, none⟩ = false from by
    have a1 := row_cell hU.tn.row 0
    have a2 := row_cell hU.tn.bm.row 1
    have a3 := row_cell hU.ow 0
    have a4 := row_cell hU.ow 8
    simp only [crow, Bs.row, List.getElem?_toArray, List.getElem?_cons_succ, List.getElem?_cons_zero] at a1 a2 a3 a4
    rw [hm] at a2
    exact ⟨⟨a1, a2⟩, a3, a4, row_frz hU.ow 8⟩))
  clear h hks hl ho hp hfr hs hS hnn hli hSS hid' hfo hv0 hv1 hh0 hp0 hn hln
  go_enter Try.func75, Try.ntmps75
  go_wp2_with fail
  go_quiet ((first | (go_at_call 69; exact Calls.quiet_of_same (CO.out _)) | (go_at_call 35; exact Calls.quiet_of_same (CS.out _))))
  go_upto_region 1 with fail
  go_quiet (fail)
  go_wp2_with (go_at_call 87; with_reducible refine (HTR.out _ (by first | exact bdrew _ _ | exact btr (bdrew _ _) (bdrew _ _))).mono ?_; rintro e w2 ⟨rfl, h2⟩; have H2 := hid h2; clear h2)
  exact bodyPost_ret (results_none rfl _ _ _) rfl ⟨rfl, H2.out⟩
theorem meet_1 (w0 : World) (F : Nat → Prop) (T B O : Nat) (b : Bs) (ve : Value) (es : List Ev) (o : Or) (s q : Int) (f : Nat) (x : Or) (r : LO) (w : World) (h : Cg w0 F T B O b ve es o s q w) (hs : s = 1 ∨ s = 2) (hl : b.sl (oth s) = (f, x) :: r) (hq0 : 0 < q) (hq1 : q < 18446744073709551616) (hv0 : 0 < x.vi) (hh0 : 0 ≤ x.hi) (hv1 : x.vi + x.hi < 18446744073709551616) (hp0 : 0 ≤ x.pk) (hn : es.length + 1 ≤ 17179869184) (hln : b.l1.length + b.l2.length ≤ 1048576) (ho : Srt (oth s) (b.sl (oth s))) (hid' : Ids b) (a : (b.meet == 0) = false) (c : (o.mb == 0) = false) (d : (o.mb != x.mb) = false) (e1 : (b.meet != 1) = false) (e2 : (b.meet != 2) = true) :
    Calls Try.prog 75 #[.pointer (some ⟨T, 0, none⟩), .pointer (some ⟨O, 0, none⟩)] w fun e w' => e = .returned (.tuple #[]) ∧ ∃ ve', Cg w0 F T B O b.told ve' (es ++ [(evC o.id q 5).num (nx b.seq)]) o s 0 w' := by
  obtain ⟨k, hk, hks⟩ : ∃ k : Nat, k < 2 ∧ oth s = (k : Int) + 1 := by
    rcases hs with rfl | rfl
    · exact ⟨1, by decide, rfl⟩
    · exact ⟨0, by decide, rfl⟩
  obtain ⟨S, hS⟩ : ∃ S, oth s = S := ⟨_, rfl⟩
  have hSS : S = 1 ∨ S = 2 := by rw [← hS]; exact oth_side hs
  have hli := h.tn.bm.sli S
  have HTR := hid (fun (U : World) (hU : Below w.heap.size w U) => trade_any w0 F T B O b ve es o s q (min q x.vi) f x r U (h.on hU) hs hl rfl hq0 hq1 hv0 (by omega) hh0 (by omega) hp0 hn hln ho)
  rw [hS] at hl ho hks
  have hfo := fo_head hSS hid' hl
  have HCC := hid (fun (U : World) (hU : Below w.heap.size w U) => (cancel_any T B b ve es x.id 5 x S k 0 U (h.on hU).tn (by omega) hln hks hk hfo.1 hfo.2 (by rw [IntKind.wrap_u64]; omega)).mono (R' := fun e w' => e = .returned (.tuple #[]) ∧ ∃ ve1, Cg w0 F T B O (b.del S 0).told ve1 (es ++ [(evC x.id (x.vi + x.hi) 5).num (nx b.seq)]) o s q w') (fun e w' hh => by
    refine ⟨hh.1, (h.on hU).fewer (by rw [hS]; exact hh.2) ?_ ?_⟩
    · rw [hS]; exact (b.put_sl S hSS _ _ _).2.1
    · rw [hS]
      intro y hy
      rw [show (b.del S 0).told.sl S = (b.sl S).eraseIdx 0 from (b.put_sl S hSS _ _ _).1] at hy
      exact List.mem_of_mem_eraseIdx hy))
  have HEN := hid (fun (U : World) (b' : Bs) (v' : Value) (e' : List Ev) (hl' : e'.length ≤ 17179869184) (hU : Cg w0 F T B O b' v' e' o s q U) => (end_any T B b' v' e' o.id q 5 U hU.tn hl').mono (R' := fun e w' => e = .returned (.tuple #[]) ∧ ∃ ve1, Cg w0 F T B O b'.told ve1 (e' ++ [(evC o.id q 5).num (nx b'.seq)]) o s q w') (fun e w' hh => ⟨hh.1, hU.told hh.2⟩))
  rw [hl] at hli
  obtain ⟨g, hp, hgc, hfr⟩ := hli.cell (i := 0) (by simp)
  simp only [List.getElem_cons_zero, pv] at hgc hfr
  have hbk := (row_cell h.tn.bm.row (2 + k)).trans (Bs.rowk hks hk)
  rw [hl, hp] at hbk
  obtain ⟨n, hnn⟩ : ∃ n, ((f, x) :: r : LO).length = n := ⟨_, rfl⟩
  have hn0 : 0 < n := by rw [← hnn]; simp
  rw [hnn] at hbk
  have t0 := row_cell h.tn.row 0
  have c1 := row_cell h.ow 1
  have c7 := row_cell h.ow 7
  have f0 := row_cell hfr 0
  have f1 := row_cell hfr 1
  have m1 := row_cell h.tn.bm.row 1
  simp only [crow, orow, Bs.row, List.getElem?_toArray, List.getElem?_cons_succ, List.getElem?_cons_zero] at t0 c1 c7 f0 f1 m1
  have CO := hid (fun U => other_any s U)
  rw [hS, hks] at CO
  have CS := hid (fun U => side_any B k U hk)
  have HCG := hid h
  have HSE := hid hS
  have HSS := hid hSS
  have HLE := hid (show es.length + 1 ≤ 17179869184 from hn)
  have HL := hid hl
  have HTO := hid (fun (U : World) (b' : Bs) (v' : Value) (e' : List Ev) (hm : b'.meet = b.meet) (hU : Cg w0 F T B O b' v' e' o s q U) => (show (U.cell? ⟨T, 0, none⟩ = some (.pointer (some ⟨B, 0, none⟩)) ∧ U.cell? ⟨B, 1, none⟩ = some (.int .i64 b.meet)) ∧ U.cell? ⟨O, 0, none⟩ = some (.int .u64 o.id) ∧ U.cell? ⟨O, 8, none⟩ = some (.int .u64 q) ∧ U.frozen? ⟨O, 8, none⟩ = false from by
    have a1 := row_cell hU.tn.row 0
    have a2 := row_cell hU.tn.bm.row 1
    have a3 := row_cell hU.ow 0
    have a4 := row_cell hU.ow 8
    simp only [crow, Bs.row, List.getElem?_toArray, List.getElem?_cons_succ, List.getElem?_cons_zero] at a1 a2 a3 a4
    rw [hm] at a2
    exact ⟨⟨a1, a2⟩, a3, a4, row_frz hU.ow 8⟩))
  clear h hks hl ho hp hfr hs hS hnn hli hSS hid' hfo hv0 hv1 hh0 hp0 hn hln
  go_enter Try.func75, Try.ntmps75
  go_wp2_with fail
  go_quiet ((first | (go_at_call 69; exact Calls.quiet_of_same (CO.out _)) | (go_at_call 35; exact Calls.quiet_of_same (CS.out _))))
  go_upto_region 1 with fail
  go_quiet (fail)
  have HLE2 := hid (show es.length ≤ 17179869184 from by have := HLE.out; omega)
  have HMT := hid (show b.told.meet = b.meet from rfl)
  obtain ⟨_, c0', c8', _⟩ := HTO.out w b ve es rfl HCG.out
  go_upto_region 6 with fail
  refine wp_region_held_drew (S := (fun U => U.cell? ⟨O, 0, none⟩ = some (.int .u64 o.id) ∧ U.cell? ⟨O, 8, none⟩ = some (.int .u64 q))) (by kernel_rfl) ?_ (fun hHeld => ?_)
  · (try dsimp only); (exact ⟨c0', c8'⟩)
  refine' wpAnyH_take (i := 0) (oi := _) (v := _) rfl (by kernel_rfl) (by kernel_rfl) (by kernel_rfl) (fun _ _ _ h => h) (Or.inl ⟨by kernel_rfl, ?hyq1⟩) (by assumption) ?restq1
  case hyq1 => (intro w hSw; (try dsimp only at hSw); go_simp; try (with_reducible rfl))
  try simp only [List.getElem_toArray, List.getElem_cons_succ, List.getElem_cons_zero, Act.put, List.setIfInBounds_toArray, List.set_cons_zero, List.set_cons_succ]
  refine' wpAnyH_take (i := 1) (oi := _) (v := _) rfl (by kernel_rfl) (by kernel_rfl) (by kernel_rfl) (fun _ _ _ h => h) (Or.inl ⟨by kernel_rfl, ?hyq2⟩) (by assumption) ?restq2
  case hyq2 => (intro w hSw; (try dsimp only at hSw); go_simp; try (with_reducible rfl))
  try simp only [List.getElem_toArray, List.getElem_cons_succ, List.getElem_cons_zero, Act.put, List.setIfInBounds_toArray, List.set_cons_zero, List.set_cons_succ]
  refine' wpAnyH_take (i := 2) (oi := _) (v := _) rfl (by kernel_rfl) (by kernel_rfl) (by kernel_rfl) (fun _ _ _ h => h) (Or.inl ⟨by kernel_rfl, ?hyq3⟩) (by assumption) ?restq3
  case hyq3 => (intro w hSw; (try dsimp only at hSw); go_simp; try (with_reducible rfl))
  try simp only [List.getElem_toArray, List.getElem_cons_succ, List.getElem_cons_zero, Act.put, List.setIfInBounds_toArray, List.set_cons_zero, List.set_cons_succ]
  refine' wpAnyH_take (i := 3) (oi := _) (v := _) rfl (by kernel_rfl) (by kernel_rfl) (by kernel_rfl) (fun _ _ _ h => h) (Or.inl ⟨by kernel_rfl, ?hyq4⟩) (by assumption) ?restq4
  case hyq4 => (intro w hSw; (try dsimp only at hSw); go_simp; try (with_reducible rfl))
  try simp only [List.getElem_toArray, List.getElem_cons_succ, List.getElem_cons_zero, Act.put, List.setIfInBounds_toArray, List.set_cons_zero, List.set_cons_succ]
  refine' wpAnyH_take (i := 4) (oi := _) (v := _) rfl (by kernel_rfl) (by kernel_rfl) (by kernel_rfl) (fun _ _ _ h => h) (Or.inl ⟨by kernel_rfl, ?hyq5⟩) (by assumption) ?restq5
  case hyq5 => (intro w hSw; (try dsimp only at hSw); go_simp; try (with_reducible rfl))
  try simp only [List.getElem_toArray, List.getElem_cons_succ, List.getElem_cons_zero, Act.put, List.setIfInBounds_toArray, List.set_cons_zero, List.set_cons_succ]
  refine' wpAnyH_take (i := 5) (oi := _) (v := _) rfl (by kernel_rfl) (by kernel_rfl) (by kernel_rfl) (fun _ _ _ h => h) (Or.inl ⟨by kernel_rfl, ?hyq6⟩) (by assumption) ?restq6
  case hyq6 => (intro w hSw; (try dsimp only at hSw); go_simp; try (with_reducible rfl))
  try simp only [List.getElem_toArray, List.getElem_cons_succ, List.getElem_cons_zero, Act.put, List.setIfInBounds_toArray, List.set_cons_zero, List.set_cons_succ]
  refine' wpAnyH_take (i := 6) (oi := _) (v := _) rfl (by kernel_rfl) (by kernel_rfl) (by kernel_rfl) (fun _ _ _ h => h) (Or.inl ⟨by kernel_rfl, ?hyq7⟩) (by assumption) ?restq7
  case hyq7 => (intro w hSw; (try dsimp only at hSw); go_simp; try (with_reducible rfl))
  try simp only [List.getElem_toArray, List.getElem_cons_succ, List.getElem_cons_zero, Act.put, List.setIfInBounds_toArray, List.set_cons_zero, List.set_cons_succ]
  refine' wpAnyH_take (i := 7) (oi := _) (v := _) rfl (by kernel_rfl) (by kernel_rfl) (by kernel_rfl) (fun _ _ _ h => h) (Or.inl ⟨by kernel_rfl, ?hyq8⟩) (by assumption) ?restq8
  case hyq8 => (intro w hSw; (try dsimp only at hSw); go_simp; try (with_reducible rfl))
  try simp only [List.getElem_toArray, List.getElem_cons_succ, List.getElem_cons_zero, Act.put, List.setIfInBounds_toArray, List.set_cons_zero, List.set_cons_succ]
  refine' wpAnyH_take (i := 8) (oi := _) (v := _) rfl (by kernel_rfl) (by kernel_rfl) (by kernel_rfl) (fun _ _ _ h => h) (Or.inl ⟨by kernel_rfl, ?hyq9⟩) (by assumption) ?restq9
  case hyq9 => (intro w hSw; (try dsimp only at hSw); go_simp; try (with_reducible rfl))
  try simp only [List.getElem_toArray, List.getElem_cons_succ, List.getElem_cons_zero, Act.put, List.setIfInBounds_toArray, List.set_cons_zero, List.set_cons_succ]
  refine' wpAnyH_take (i := 9) (oi := _) (v := _) rfl (by kernel_rfl) (by kernel_rfl) (by kernel_rfl) (fun _ _ _ h => h) (Or.inl ⟨by kernel_rfl, ?hyq10⟩) (by assumption) ?restq10
  case hyq10 => (intro w hSw; (try dsimp only at hSw); go_simp; try (with_reducible rfl))
  try simp only [List.getElem_toArray, List.getElem_cons_succ, List.getElem_cons_zero, Act.put, List.setIfInBounds_toArray, List.set_cons_zero, List.set_cons_succ]
  refine wpAnyH_ready (rs := [10]) (by kernel_rfl) (by simp) ?_
  refine AllReadyH.cons (o := _) rfl (fun K hK => ?_) AllReadyH.nil
  go_simp
  go_at_call 54; with_reducible refine (HEN.out _ b ve es (by first | exact HLE2.out | omega) (HCG.out.on (by first | exact bdrew1 _ | exact bdrew _ _ | exact btr (bdrew _ _) (bdrew1 _) | exact btr (bdrew _ _) (bdrew _ _)))).mono ?_; rintro e w3 ⟨rfl, ve3, hc3⟩; have H3 := hid hc3
  (try go_wp2_with fail)
  refine hK.out _ _ ?_ (fun hHeld => ?_)
  · (try dsimp only); (exact ⟨(HTO.out w3 _ _ _ (by exact HMT.out) H3.out).2.1, (HTO.out w3 _ _ _ (by exact HMT.out) H3.out).2.2.1⟩)
  clear hK K
  try simp only [List.getElem_toArray, List.getElem_cons_succ, List.getElem_cons_zero, Act.put, List.setIfInBounds_toArray, List.set_cons_zero, List.set_cons_succ]
  refine wpAnyH_done (by kernel_rfl) ?_ _
  clear c0' c8' hHeld
  obtain ⟨_, _, a8, z8⟩ := HTO.out w3 _ _ _ (by exact HMT.out) H3.out
  go_wp2
  go_end0
  exact ⟨rfl, ve3, H3.out.left 0⟩
theorem meet_2 (w0 : World) (F : Nat → Prop) (T B O : Nat) (b : Bs) (ve : Value) (es : List Ev) (o : Or) (s q : Int) (f : Nat) (x : Or) (r : LO) (w : World) (h : Cg w0 F T B O b ve es o s q w) (hs : s = 1 ∨ s = 2) (hl : b.sl (oth s) = (f, x) :: r) (hq0 : 0 < q) (hq1 : q < 18446744073709551616) (hv0 : 0 < x.vi) (hh0 : 0 ≤ x.hi) (hv1 : x.vi + x.hi < 18446744073709551616) (hp0 : 0 ≤ x.pk) (hn : es.length + 1 ≤ 17179869184) (hln : b.l1.length + b.l2.length ≤ 1048576) (ho : Srt (oth s) (b.sl (oth s))) (hid' : Ids b) (a : (b.meet == 0) = false) (c : (o.mb == 0) = false) (d : (o.mb != x.mb) = false) (e1 : (b.meet != 1) = true) (e2 : (b.meet != 2) = false) :
    Calls Try.prog 75 #[.pointer (some ⟨T, 0, none⟩), .pointer (some ⟨O, 0, none⟩)] w fun e w' => e = .returned (.tuple #[]) ∧ ∃ ve', Cg w0 F T B O (b.del (oth s) 0).told ve' (es ++ [(evC x.id (x.vi + x.hi) 5).num (nx b.seq)]) o s q w' := by
  obtain ⟨k, hk, hks⟩ : ∃ k : Nat, k < 2 ∧ oth s = (k : Int) + 1 := by
    rcases hs with rfl | rfl
    · exact ⟨1, by decide, rfl⟩
    · exact ⟨0, by decide, rfl⟩
  obtain ⟨S, hS⟩ : ∃ S, oth s = S := ⟨_, rfl⟩
  have hSS : S = 1 ∨ S = 2 := by rw [← hS]; exact oth_side hs
  have hli := h.tn.bm.sli S
  have HTR := hid (fun (U : World) (hU : Below w.heap.size w U) => trade_any w0 F T B O b ve es o s q (min q x.vi) f x r U (h.on hU) hs hl rfl hq0 hq1 hv0 (by omega) hh0 (by omega) hp0 hn hln ho)
  rw [hS] at hl ho hks
  have hfo := fo_head hSS hid' hl
  have HCC := hid (fun (U : World) (hU : Below w.heap.size w U) => (cancel_any T B b ve es x.id 5 x S k 0 U (h.on hU).tn (by omega) hln hks hk hfo.1 hfo.2 (by rw [IntKind.wrap_u64]; omega)).mono (R' := fun e w' => e = .returned (.tuple #[]) ∧ ∃ ve1, Cg w0 F T B O (b.del S 0).told ve1 (es ++ [(evC x.id (x.vi + x.hi) 5).num (nx b.seq)]) o s q w') (fun e w' hh => by
    refine ⟨hh.1, (h.on hU).fewer (by rw [hS]; exact hh.2) ?_ ?_⟩
    · rw [hS]; exact (b.put_sl S hSS _ _ _).2.1
    · rw [hS]
      intro y hy
      rw [show (b.del S 0).told.sl S = (b.sl S).eraseIdx 0 from (b.put_sl S hSS _ _ _).1] at hy
      exact List.mem_of_mem_eraseIdx hy))
  have HEN := hid (fun (U : World) (b' : Bs) (v' : Value) (e' : List Ev) (hl' : e'.length ≤ 17179869184) (hU : Cg w0 F T B O b' v' e' o s q U) => (end_any T B b' v' e' o.id q 5 U hU.tn hl').mono (R' := fun e w' => e = .returned (.tuple #[]) ∧ ∃ ve1, Cg w0 F T B O b'.told ve1 (e' ++ [(evC o.id q 5).num (nx b'.seq)]) o s q w') (fun e w' hh => ⟨hh.1, hU.told hh.2⟩))
  rw [hl] at hli
  obtain ⟨g, hp, hgc, hfr⟩ := hli.cell (i := 0) (by simp)
  simp only [List.getElem_cons_zero, pv] at hgc hfr
  have hbk := (row_cell h.tn.bm.row (2 + k)).trans (Bs.rowk hks hk)
  rw [hl, hp] at hbk
  obtain ⟨n, hnn⟩ : ∃ n, ((f, x) :: r : LO).length = n := ⟨_, rfl⟩
  have hn0 : 0 < n := by rw [← hnn]; simp
  rw [hnn] at hbk
  have t0 := row_cell h.tn.row 0
  have c1 := row_cell h.ow 1
  have c7 := row_cell h.ow 7
  have f0 := row_cell hfr 0
  have f1 := row_cell hfr 1
  have m1 := row_cell h.tn.bm.row 1
  simp only [crow, orow, Bs.row, List.getElem?_toArray, List.getElem?_cons_succ, List.getElem?_cons_zero] at t0 c1 c7 f0 f1 m1
  have CO := hid (fun U => other_any s U)
  rw [hS, hks] at CO
  have CS := hid (fun U => side_any B k U hk)
  have HCG := hid h
  have HSE := hid hS
  have HSS := hid hSS
  have HLE := hid (show es.length + 1 ≤ 17179869184 from hn)
  have HL := hid hl
  have HTO := hid (fun (U : World) (b' : Bs) (v' : Value) (e' : List Ev) (hm : b'.meet = b.meet) (hU : Cg w0 F T B O b' v' e' o s q U) => (show (U.cell? ⟨T, 0, none⟩ = some (.pointer (some ⟨B, 0, none⟩)) ∧ U.cell? ⟨B, 1, none⟩ = some (.int .i64 b.meet)) ∧ U.cell? ⟨O, 0, none⟩ = some (.int .u64 o.id) ∧ U.cell? ⟨O, 8, none⟩ = some (.int .u64 q) ∧ U.frozen? ⟨O, 8, none⟩ = false from by
    have a1 := row_cell hU.tn.row 0
    have a2 := row_cell hU.tn.bm.row 1
    have a3 := row_cell hU.ow 0
    have a4 := row_cell hU.ow 8
    simp only [crow, Bs.row, List.getElem?_toArray, List.getElem?_cons_succ, List.getElem?_cons_zero] at a1 a2 a3 a4
    rw [hm] at a2
    exact ⟨⟨a1, a2⟩, a3, a4, row_frz hU.ow 8⟩))
  clear h hks hl ho hp hfr hs hS hnn hli hSS hid' hfo hv0 hv1 hh0 hp0 hn hln
  go_enter Try.func75, Try.ntmps75
  go_wp2_with fail
  go_quiet ((first | (go_at_call 69; exact Calls.quiet_of_same (CO.out _)) | (go_at_call 35; exact Calls.quiet_of_same (CS.out _))))
  go_upto_region 1 with fail
  go_quiet (fail)
  have HM2 := hid (show (b.del S 0).told.meet = b.meet from put_meet _ _ _ _ _)
  go_wp2_with (go_at_call 27; with_reducible refine (HCC.out _ (by first | exact bdrew1 _ | exact bdrew _ _ | exact btr (bdrew _ _) (bdrew1 _) | exact btr (bdrew _ _) (bdrew _ _))).mono ?_; rintro e w2 ⟨rfl, ve2, h2⟩; have H2 := hid h2; have hto := HTO.out w2 _ _ _ (by exact HM2.out) h2; have u1 := hto.1.1; have u2 := hto.1.2; have u3 := hto.2.1; have u4 := hto.2.2.1; clear h2 hto t0 m1 c1 c7 f0 f1 hgc hbk)
  go_end0
  refine ⟨rfl, ve2, ?_⟩
  rw [HSE.out]
  exact H2.out
theorem meet_3 (w0 : World) (F : Nat → Prop) (T B O : Nat) (b : Bs) (ve : Value) (es : List Ev) (o : Or) (s q : Int) (f : Nat) (x : Or) (r : LO) (w : World) (h : Cg w0 F T B O b ve es o s q w) (hs : s = 1 ∨ s = 2) (hl : b.sl (oth s) = (f, x) :: r) (hq0 : 0 < q) (hq1 : q < 18446744073709551616) (hv0 : 0 < x.vi) (hh0 : 0 ≤ x.hi) (hv1 : x.vi + x.hi < 18446744073709551616) (hp0 : 0 ≤ x.pk) (hn : es.length + 1 ≤ 17179869184) (hln : b.l1.length + b.l2.length ≤ 1048576) (ho : Srt (oth s) (b.sl (oth s))) (hid' : Ids b) (a : (b.meet == 0) = false) (c : (o.mb == 0) = false) (d : (o.mb != x.mb) = false) (e1 : (b.meet != 1) = true) (e2 : (b.meet != 2) = true) :
    Calls Try.prog 75 #[.pointer (some ⟨T, 0, none⟩), .pointer (some ⟨O, 0, none⟩)] w fun e w' => e = .returned (.tuple #[]) ∧ ∃ ve', Cg w0 F T B O (b.del (oth s) 0).told.told ve' (es ++ [(evC x.id (x.vi + x.hi) 5).num (nx b.seq), (evC o.id q 5).num (nx (nx b.seq))]) o s 0 w' := by
  obtain ⟨k, hk, hks⟩ : ∃ k : Nat, k < 2 ∧ oth s = (k : Int) + 1 := by
    rcases hs with rfl | rfl
    · exact ⟨1, by decide, rfl⟩
    · exact ⟨0, by decide, rfl⟩
  obtain ⟨S, hS⟩ : ∃ S, oth s = S := ⟨_, rfl⟩
  have hSS : S = 1 ∨ S = 2 := by rw [← hS]; exact oth_side hs
  have hli := h.tn.bm.sli S
  have HTR := hid (fun (U : World) (hU : Below w.heap.size w U) => trade_any w0 F T B O b ve es o s q (min q x.vi) f x r U (h.on hU) hs hl rfl hq0 hq1 hv0 (by omega) hh0 (by omega) hp0 hn hln ho)
  rw [hS] at hl ho hks
  have hfo := fo_head hSS hid' hl
  have HCC := hid (fun (U : World) (hU : Below w.heap.size w U) => (cancel_any T B b ve es x.id 5 x S k 0 U (h.on hU).tn (by omega) hln hks hk hfo.1 hfo.2 (by rw [IntKind.wrap_u64]; omega)).mono (R' := fun e w' => e = .returned (.tuple #[]) ∧ ∃ ve1, Cg w0 F T B O (b.del S 0).told ve1 (es ++ [(evC x.id (x.vi + x.hi) 5).num (nx b.seq)]) o s q w') (fun e w' hh => by
    refine ⟨hh.1, (h.on hU).fewer (by rw [hS]; exact hh.2) ?_ ?_⟩
    · rw [hS]; exact (b.put_sl S hSS _ _ _).2.1
    · rw [hS]
      intro y hy
      rw [show (b.del S 0).told.sl S = (b.sl S).eraseIdx 0 from (b.put_sl S hSS _ _ _).1] at hy
      exact List.mem_of_mem_eraseIdx hy))
  have HEN := hid (fun (U : World) (b' : Bs) (v' : Value) (e' : List Ev) (hl' : e'.length ≤ 17179869184) (hU : Cg w0 F T B O b' v' e' o s q U) => (end_any T B b' v' e' o.id q 5 U hU.tn hl').mono (R' := fun e w' => e = .returned (.tuple #[]) ∧ ∃ ve1, Cg w0 F T B O b'.told ve1 (e' ++ [(evC o.id q 5).num (nx b'.seq)]) o s q w') (fun e w' hh => ⟨hh.1, hU.told hh.2⟩))
  rw [hl] at hli
  obtain ⟨g, hp, hgc, hfr⟩ := hli.cell (i := 0) (by simp)
  simp only [List.getElem_cons_zero, pv] at hgc hfr
  have hbk := (row_cell h.tn.bm.row (2 + k)).trans (Bs.rowk hks hk)
  rw [hl, hp] at hbk
  obtain ⟨n, hnn⟩ : ∃ n, ((f, x) :: r : LO).length = n := ⟨_, rfl⟩
  have hn0 : 0 < n := by rw [← hnn]; simp
  rw [hnn] at hbk
  have t0 := row_cell h.tn.row 0
  have c1 := row_cell h.ow 1
  have c7 := row_cell h.ow 7
  have f0 := row_cell hfr 0
  have f1 := row_cell hfr 1
  have m1 := row_cell h.tn.bm.row 1
  simp only [crow, orow, Bs.row, List.getElem?_toArray, List.getElem?_cons_succ, List.getElem?_cons_zero] at t0 c1 c7 f0 f1 m1
  have CO := hid (fun U => other_any s U)
  rw [hS, hks] at CO
  have CS := hid (fun U => side_any B k U hk)
  have HCG := hid h
  have HSE := hid hS
  have HSS := hid hSS
  have HLE := hid (show es.length + 1 ≤ 17179869184 from hn)
  have HL := hid hl
  have HTO := hid (fun (U : World) (b' : Bs) (v' : Value) (e' : List Ev) (hm : b'.meet = b.meet) (hU : Cg w0 F T B O b' v' e' o s q U) => (show (U.cell? ⟨T, 0, none⟩ = some (.pointer (some ⟨B, 0, none⟩)) ∧ U.cell? ⟨B, 1, none⟩ = some (.int .i64 b.meet)) ∧ U.cell? ⟨O, 0, none⟩ = some (.int .u64 o.id) ∧ U.cell? ⟨O, 8, none⟩ = some (.int .u64 q) ∧ U.frozen? ⟨O, 8, none⟩ = false from by
    have a1 := row_cell hU.tn.row 0
    have a2 := row_cell hU.tn.bm.row 1
    have a3 := row_cell hU.ow 0
    have a4 := row_cell hU.ow 8
    simp only [crow, Bs.row, List.getElem?_toArray, List.getElem?_cons_succ, List.getElem?_cons_zero] at a1 a2 a3 a4
    rw [hm] at a2
    exact ⟨⟨a1, a2⟩, a3, a4, row_frz hU.ow 8⟩))
  clear h hks hl ho hp hfr hs hS hnn hli hSS hid' hfo hv0 hv1 hh0 hp0 hn hln
  go_enter Try.func75, Try.ntmps75
  go_wp2_with fail
  go_quiet ((first | (go_at_call 69; exact Calls.quiet_of_same (CO.out _)) | (go_at_call 35; exact Calls.quiet_of_same (CS.out _))))
  go_upto_region 1 with fail
  go_quiet (fail)
  have HM2 := hid (show (b.del S 0).told.meet = b.meet from put_meet _ _ _ _ _)
  have HMT := hid (show (b.del S 0).told.told.meet = b.meet from put_meet _ _ _ _ _)
  have HLE2 := hid (show (es ++ [(evC x.id (x.vi + x.hi) 5).num (nx b.seq)]).length ≤ 17179869184 from by have := HLE.out; simp; omega)
  go_upto_region 6 with (go_at_call 27; with_reducible refine (HCC.out _ (by first | exact bdrew1 _ | exact bdrew _ _ | exact btr (bdrew _ _) (bdrew1 _) | exact btr (bdrew _ _) (bdrew _ _))).mono ?_; rintro e w2 ⟨rfl, ve2, h2⟩; have H2 := hid h2; have hto := HTO.out w2 _ _ _ (by exact HM2.out) h2; have u1 := hto.1.1; have u2 := hto.1.2; have u3 := hto.2.1; have u4 := hto.2.2.1; clear h2 hto t0 m1 c1 c7 f0 f1 hgc hbk)
  refine wp_region_held_drew (S := (fun U => U.cell? ⟨O, 0, none⟩ = some (.int .u64 o.id) ∧ U.cell? ⟨O, 8, none⟩ = some (.int .u64 q))) (by kernel_rfl) ?_ (fun hHeld => ?_)
  · (try dsimp only); (exact ⟨u3, u4⟩)
  refine' wpAnyH_take (i := 0) (oi := _) (v := _) rfl (by kernel_rfl) (by kernel_rfl) (by kernel_rfl) (fun _ _ _ h => h) (Or.inl ⟨by kernel_rfl, ?hyq11⟩) (by assumption) ?restq11
  case hyq11 => (intro w hSw; (try dsimp only at hSw); go_simp; try (with_reducible rfl))
  try simp only [List.getElem_toArray, List.getElem_cons_succ, List.getElem_cons_zero, Act.put, List.setIfInBounds_toArray, List.set_cons_zero, List.set_cons_succ]
  refine' wpAnyH_take (i := 1) (oi := _) (v := _) rfl (by kernel_rfl) (by kernel_rfl) (by kernel_rfl) (fun _ _ _ h => h) (Or.inl ⟨by kernel_rfl, ?hyq12⟩) (by assumption) ?restq12
  case hyq12 => (intro w hSw; (try dsimp only at hSw); go_simp; try (with_reducible rfl))
  try simp only [List.getElem_toArray, List.getElem_cons_succ, List.getElem_cons_zero, Act.put, List.setIfInBounds_toArray, List.set_cons_zero, List.set_cons_succ]
  refine' wpAnyH_take (i := 2) (oi := _) (v := _) rfl (by kernel_rfl) (by kernel_rfl) (by kernel_rfl) (fun _ _ _ h => h) (Or.inl ⟨by kernel_rfl, ?hyq13⟩) (by assumption) ?restq13
  case hyq13 => (intro w hSw; (try dsimp only at hSw); go_simp; try (with_reducible rfl))
  try simp only [List.getElem_toArray, List.getElem_cons_succ, List.getElem_cons_zero, Act.put, List.setIfInBounds_toArray, List.set_cons_zero, List.set_cons_succ]
  refine' wpAnyH_take (i := 3) (oi := _) (v := _) rfl (by kernel_rfl) (by kernel_rfl) (by kernel_rfl) (fun _ _ _ h => h) (Or.inl ⟨by kernel_rfl, ?hyq14⟩) (by assumption) ?restq14
  case hyq14 => (intro w hSw; (try dsimp only at hSw); go_simp; try (with_reducible rfl))
  try simp only [List.getElem_toArray, List.getElem_cons_succ, List.getElem_cons_zero, Act.put, List.setIfInBounds_toArray, List.set_cons_zero, List.set_cons_succ]
  refine' wpAnyH_take (i := 4) (oi := _) (v := _) rfl (by kernel_rfl) (by kernel_rfl) (by kernel_rfl) (fun _ _ _ h => h) (Or.inl ⟨by kernel_rfl, ?hyq15⟩) (by assumption) ?restq15
  case hyq15 => (intro w hSw; (try dsimp only at hSw); go_simp; try (with_reducible rfl))
  try simp only [List.getElem_toArray, List.getElem_cons_succ, List.getElem_cons_zero, Act.put, List.setIfInBounds_toArray, List.set_cons_zero, List.set_cons_succ]
  refine' wpAnyH_take (i := 5) (oi := _) (v := _) rfl (by kernel_rfl) (by kernel_rfl) (by kernel_rfl) (fun _ _ _ h => h) (Or.inl ⟨by kernel_rfl, ?hyq16⟩) (by assumption) ?restq16
  case hyq16 => (intro w hSw; (try dsimp only at hSw); go_simp; try (with_reducible rfl))
  try simp only [List.getElem_toArray, List.getElem_cons_succ, List.getElem_cons_zero, Act.put, List.setIfInBounds_toArray, List.set_cons_zero, List.set_cons_succ]
  refine' wpAnyH_take (i := 6) (oi := _) (v := _) rfl (by kernel_rfl) (by kernel_rfl) (by kernel_rfl) (fun _ _ _ h => h) (Or.inl ⟨by kernel_rfl, ?hyq17⟩) (by assumption) ?restq17
  case hyq17 => (intro w hSw; (try dsimp only at hSw); go_simp; try (with_reducible rfl))
  try simp only [List.getElem_toArray, List.getElem_cons_succ, List.getElem_cons_zero, Act.put, List.setIfInBounds_toArray, List.set_cons_zero, List.set_cons_succ]
  refine' wpAnyH_take (i := 7) (oi := _) (v := _) rfl (by kernel_rfl) (by kernel_rfl) (by kernel_rfl) (fun _ _ _ h => h) (Or.inl ⟨by kernel_rfl, ?hyq18⟩) (by assumption) ?restq18
  case hyq18 => (intro w hSw; (try dsimp only at hSw); go_simp; try (with_reducible rfl))
  try simp only [List.getElem_toArray, List.getElem_cons_succ, List.getElem_cons_zero, Act.put, List.setIfInBounds_toArray, List.set_cons_zero, List.set_cons_succ]
  refine' wpAnyH_take (i := 8) (oi := _) (v := _) rfl (by kernel_rfl) (by kernel_rfl) (by kernel_rfl) (fun _ _ _ h => h) (Or.inl ⟨by kernel_rfl, ?hyq19⟩) (by assumption) ?restq19
  case hyq19 => (intro w hSw; (try dsimp only at hSw); go_simp; try (with_reducible rfl))
  try simp only [List.getElem_toArray, List.getElem_cons_succ, List.getElem_cons_zero, Act.put, List.setIfInBounds_toArray, List.set_cons_zero, List.set_cons_succ]
  refine' wpAnyH_take (i := 9) (oi := _) (v := _) rfl (by kernel_rfl) (by kernel_rfl) (by kernel_rfl) (fun _ _ _ h => h) (Or.inl ⟨by kernel_rfl, ?hyq20⟩) (by assumption) ?restq20
  case hyq20 => (intro w hSw; (try dsimp only at hSw); go_simp; try (with_reducible rfl))
  try simp only [List.getElem_toArray, List.getElem_cons_succ, List.getElem_cons_zero, Act.put, List.setIfInBounds_toArray, List.set_cons_zero, List.set_cons_succ]
  refine wpAnyH_ready (rs := [10]) (by kernel_rfl) (by simp) ?_
  refine AllReadyH.cons (o := _) rfl (fun K hK => ?_) AllReadyH.nil
  go_simp
  go_at_call 54; with_reducible refine (HEN.out _ _ _ _ (by first | exact HLE2.out | omega) (H2.out.on (by first | exact bdrew1 _ | exact bdrew _ _ | exact btr (bdrew _ _) (bdrew1 _) | exact btr (bdrew _ _) (bdrew _ _)))).mono ?_; rintro e w3 ⟨rfl, ve3, hc3⟩; have H3 := hid hc3
  (try go_wp2_with fail)
  refine hK.out _ _ ?_ (fun hHeld => ?_)
  · (try dsimp only); (exact ⟨(HTO.out w3 _ _ _ (by exact HMT.out) H3.out).2.1, (HTO.out w3 _ _ _ (by exact HMT.out) H3.out).2.2.1⟩)
  clear hK K
  try simp only [List.getElem_toArray, List.getElem_cons_succ, List.getElem_cons_zero, Act.put, List.setIfInBounds_toArray, List.set_cons_zero, List.set_cons_succ]
  refine wpAnyH_done (by kernel_rfl) ?_ _
  clear u1 u2 u3 u4 hHeld
  obtain ⟨_, _, a8, z8⟩ := HTO.out w3 _ _ _ (by exact HMT.out) H3.out
  go_wp2
  go_end0
  refine ⟨rfl, ve3, ?_⟩
  rw [HSE.out]
  have h9 := H3.out.left 0
  rw [List.append_assoc, show (b.del S 0).told.seq = nx b.seq from by show nx (b.del S 0).seq = _; rw [Bs.del_seq]] at h9
  exact h9
theorem meet_any (w0 : World) (F : Nat → Prop) (T B O : Nat) (b : Bs) (ve : Value) (es : List Ev) (o : Or) (s q : Int) (f : Nat) (x : Or) (r : LO) (w : World) (h : Cg w0 F T B O b ve es o s q w) (hs : s = 1 ∨ s = 2) (hl : b.sl (oth s) = (f, x) :: r) (hq0 : 0 < q) (hq1 : q < 18446744073709551616) (hv0 : 0 < x.vi) (hh0 : 0 ≤ x.hi) (hv1 : x.vi + x.hi < 18446744073709551616) (hp0 : 0 ≤ x.pk) (hn : es.length + 1 ≤ 17179869184) (hln : b.l1.length + b.l2.length ≤ 1048576) (ho : Srt (oth s) (b.sl (oth s))) (hid' : Ids b) :
    Calls Try.prog 75 #[.pointer (some ⟨T, 0, none⟩), .pointer (some ⟨O, 0, none⟩)] w fun e w' => e = .returned (.tuple #[]) ∧ ∃ ve', Cg w0 F T B O (mtB b o s q f x r).1 ve' (es ++ (mtB b o s q f x r).2.1) o s (mtB b o s q f x r).2.2 w' := by
  unfold mtB
  cases hp : prt b o x with
  | false =>
    rw [if_pos rfl]
    unfold prt at hp
    simp only [Bool.not_eq_false', Bool.or_eq_true] at hp
    cases a : (b.meet == 0) with
    | true => exact meet_a w0 F T B O b ve es o s q f x r w h hs hl hq0 hq1 hv0 hh0 hv1 hp0 hn hln ho hid' a
    | false =>
      cases c : (o.mb == 0) with
      | true => exact meet_b w0 F T B O b ve es o s q f x r w h hs hl hq0 hq1 hv0 hh0 hv1 hp0 hn hln ho hid' a c
      | false =>
        have d : (o.mb != x.mb) = true := by
          rcases hp with (hp | hp) | hp
          · rw [a] at hp; cases hp
          · rw [c] at hp; cases hp
          · exact hp
        exact meet_c w0 F T B O b ve es o s q f x r w h hs hl hq0 hq1 hv0 hh0 hv1 hp0 hn hln ho hid' a c d
  | true =>
    rw [if_neg (by simp)]
    unfold prt at hp
    simp only [Bool.not_eq_true', Bool.or_eq_false_iff] at hp
    obtain ⟨⟨a, c⟩, d⟩ := hp
    by_cases k1 : b.meet = 1
    · rw [if_pos k1]
      exact meet_1 w0 F T B O b ve es o s q f x r w h hs hl hq0 hq1 hv0 hh0 hv1 hp0 hn hln ho hid' a c d (by simp [k1]) (by simp [k1])
    · rw [if_neg k1]
      by_cases k2 : b.meet = 2
      · rw [if_pos k2]
        exact meet_2 w0 F T B O b ve es o s q f x r w h hs hl hq0 hq1 hv0 hh0 hv1 hp0 hn hln ho hid' a c d (by simp [k2]) (by simp [k2])
      · rw [if_neg k2]
        exact meet_3 w0 F T B O b ve es o s q f x r w h hs hl hq0 hq1 hv0 hh0 hv1 hp0 hn hln ho hid' a c d (by simpa using k1) (by simpa using k2)
end Go.Proofs.Ytojmcfkbekodpaa
