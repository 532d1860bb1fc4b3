/-
  A call by the program and one by the document, side by side.
-/
import Derived.Test.YtnmkfdndfhefiaaGreatQuU
import Derived.Test.YtnmkfdndfhefiaaGreatGd
namespace Go.Proofs.YtnmkfdndfhefiaaGreat
open Go.RowKit Go.Deep Go.Shelf
set_option linter.unusedVariables false
set_option linter.unusedSimpArgs false
set_option maxHeartbeats 8000000
set_option maxRecDepth 100000
/-- both: O is all that is theirs. -/
structure Pp (w0 w : World) (O : Nat → Prop) (X B : Nat) (r m : Int) (L : List It) (p1 : Option Addr) (c1 : Nat) (p2 : Option Addr) (c2 : Nat) (pL : Option Addr) (cL : Nat) : Prop where
  row : w.heap[X]? = some (.cells #[.pointer (some ⟨B, 0, none⟩), .int .i64 r, .int .i64 m, .slice pL L.length cL] 31 (0, 0))
  cl : Cl w B r m p1 c1 (iso 1 L) p2 c2 (iso 2 L)
  li : Li w pL cL L
  lk : Lk L
  be : Below w0.heap.size w0 w
  ap : ∀ g, OfP p1 g ∨ OfP p2 g → ¬ OfP pL g
  oX : O X
  oB : O B
  o1 : ∀ g, OfP p1 g ∨ OfP p2 g → O g
  oL : ∀ g, OfP pL g → O g
  og : ∀ g, O g → w0.heap.size ≤ g ∧ g < w.heap.size
theorem Pp.on {w0 w w' : World} {O : Nat → Prop} {X B : Nat} {r m : Int} {L : List It} {p1 : Option Addr} {c1 : Nat} {p2 : Option Addr} {c2 : Nat} {pL : Option Addr} {cL : Nat} (h : Pp w0 w O X B r m L p1 c1 p2 c2 pL cL) (hb : Below w.heap.size w w') : Pp w0 w' O X B r m L p1 c1 p2 c2 pL cL :=
  ⟨row_on h.row hb, h.cl.on hb, h.li.on hb, h.lk, btr h.be hb, h.ap, h.oX, h.oB, h.o1, h.oL, fun g hg => ⟨(h.og g hg).1, Nat.lt_of_lt_of_le (h.og g hg).2 hb.size⟩⟩
theorem Cl.kept {w w' : World} {P : Nat → Prop} {B : Nat} {r m : Int} {p1 : Option Addr} {c1 : Nat} {b : List It} {p2 : Option Addr} {c2 : Nat} {s : List It} (h : Cl w B r m p1 c1 b p2 c2 s) (hk : Kp P w w') (hB : ¬ P B) (h1 : ∀ g, OfP p1 g ∨ OfP p2 g → ¬ P g) : Cl w' B r m p1 c1 b p2 c2 s :=
  ⟨hk.row h.row hB, h.l1.kept hk (fun g hg => h1 g (.inl hg)), h.l2.kept hk (fun g hg => h1 g (.inr hg)), h.s1, h.s2, h.ap, h.r0, h.r1, h.m0, h.m1, h.mb⟩
theorem Pp.kept {w0 w w' : World} {P O : Nat → Prop} {X B : Nat} {r m : Int} {L : List It} {p1 : Option Addr} {c1 : Nat} {p2 : Option Addr} {c2 : Nat} {pL : Option Addr} {cL : Nat} (h : Pp w0 w O X B r m L p1 c1 p2 c2 pL cL) (hk : Kp P w w') (hP : ∀ g, O g → ¬ P g) (h0 : ∀ g, g < w0.heap.size → ¬ P g) : Pp w0 w' O X B r m L p1 c1 p2 c2 pL cL :=
  ⟨hk.row h.row (hP X h.oX), h.cl.kept hk (hP B h.oB) (fun g hg => hP g (h.o1 g hg)), h.li.kept hk (fun g hg => hP g (h.oL g hg)), h.lk, h.be.trans (hk.below h.be.size h0), h.ap, h.oX, h.oB, h.o1, h.oL, fun g hg => ⟨(h.og g hg).1, Nat.lt_of_lt_of_le (h.og g hg).2 hk.size⟩⟩
theorem Pp.isP {w0 w : World} {O : Nat → Prop} {X B : Nat} {r m : Int} {L : List It} {p1 : Option Addr} {c1 : Nat} {p2 : Option Addr} {c2 : Nat} {pL : Option Addr} {cL : Nat} (h : Pp w0 w O X B r m L p1 c1 p2 c2 pL cL) : Go.Proofs.YtnmkfdndfhefiaaGreat.isP r = true := decide_eq_true ⟨h.cl.r0, h.cl.r1⟩
/-- both, whatever they hold. -/
def Ps (w0 w : World) (O : Nat → Prop) (X : Nat) : Prop := ∃ B r m L p1 c1 p2 c2 pL cL, Pp w0 w O X B r m L p1 c1 p2 c2 pL cL
/-- both, behind a step. -/
def Nx (w0 w w' : World) (O : Nat → Prop) (X : Nat) : Prop := ∃ O', Ps w0 w' O' X ∧ Kp O w w' ∧ ∀ g, O' g → O g ∨ w.heap.size ≤ g
theorem Pp.same {w0 w w' : World} {O : Nat → Prop} {X B : Nat} {r m : Int} {L : List It} {p1 : Option Addr} {c1 : Nat} {p2 : Option Addr} {c2 : Nat} {pL : Option Addr} {cL : Nat} (h : Pp w0 w O X B r m L p1 c1 p2 c2 pL cL) (hb : Below w.heap.size w w') : Nx w0 w w' O X :=
  ⟨O, ⟨_, _, _, _, _, _, _, _, _, _, h.on hb⟩, Kp.of _ hb, fun g hg => .inl hg⟩
/-- behind a step that was made in a world of later. -/
theorem Nx.from {w0 w u w' : World} {O : Nat → Prop} {X : Nat} (h : Nx w0 u w' O X) (hb : Below w.heap.size w u) : Nx w0 w w' O X := by
  obtain ⟨O', h1, h2, h3⟩ := h
  exact ⟨O', h1, (Kp.of O hb).trans h2 (fun g _ hg => hg), fun g hg => (h3 g hg).imp id (fun e => Nat.le_trans hb.size e)⟩
theorem Nx.to {w0 w u w' : World} {O : Nat → Prop} {X : Nat} (h : Nx w0 w u O X) (hb : Below u.heap.size u w') : Nx w0 w w' O X := by
  obtain ⟨O', ⟨B, r, m, L, p1, c1, p2, c2, pL, cL, h1⟩, h2, h3⟩ := h
  exact ⟨O', ⟨B, r, m, L, p1, c1, p2, c2, pL, cL, h1.on hb⟩, h2.trans (Kp.of O hb) (fun g _ hg => hg), h3⟩
theorem hsi_no {id : Int} {l : List It} (h : ¬ hsi id l = true) : ∀ y ∈ l, y.id ≠ id := by
  intro y hy e
  exact h (by unfold hsi; rw [List.any_eq_true]; exact ⟨y, hy, by simpa using e⟩)
/-- what stands behind an Enter. -/
def dl (m : Int) (L : List It) (x : It) : List It := if rfd m L x = 0 then L ++ [x] else L
theorem rfd_ok {m : Int} {L : List It} {x : It} (h : rfd m L x = 0) : (Ik x.sd x ∧ (x.sd = 1 ∨ x.sd = 2)) ∧ (∀ y ∈ L, y.id ≠ x.id) ∧ (L.length : Int) < m := by
  unfold rfd at h
  have h0 : ck x = 0 := by
    by_cases e : ck x = 0
    · exact e
    · rw [if_pos e] at h; exact h
  rw [if_neg (by simpa using h0)] at h
  have h1 : ¬ (x.id = 0 ∨ hsi x.id L = true) := fun e => by rw [if_pos e] at h; omega
  rw [if_neg h1] at h
  have h2 : ¬ m ≤ (L.length : Int) := fun e => by rw [if_pos e] at h; omega
  exact ⟨ck_ok h0, hsi_no (fun e => h1 (.inr e)), by omega⟩
theorem dl_lk {m : Int} {L : List It} {x : It} (h : Lk L) (hm : m ≤ 4096) : Lk (dl m L x) := by
  unfold dl
  by_cases e : rfd m L x = 0
  · rw [if_pos e]
    obtain ⟨h1, h2, h3⟩ := rfd_ok e
    refine ⟨fun y hy => ?_, ?_, ?_⟩
    · rcases List.mem_append.1 hy with hy | hy
      · exact h.ok y hy
      · rw [List.mem_singleton.1 hy]; exact h1
    · rw [List.map_append, List.nodup_append]
      refine ⟨h.nd, by simp, fun a ha b hb => ?_⟩
      obtain ⟨y, hy, rfl⟩ := List.mem_map.1 ha
      simp only [List.map_cons, List.map_nil, List.mem_singleton] at hb
      rw [hb]
      exact h2 y hy
    · rw [List.length_append]; simp; omega
  · rw [if_neg e]; exact h
theorem eb_dl {m : Int} {L : List It} {x : It} (h : Lk L) : eb m (iso 1 L) (iso 2 L) x = iso 1 (dl m L x) := by
  unfold eb dl
  rw [rfd_rfi h]
  by_cases e : rfd m L x = 0
  · rw [if_pos e, iso_snoc]
    by_cases e2 : x.sd = 1
    · rw [if_pos ⟨e, e2⟩, if_pos e2]
    · rw [if_neg (fun hh => e2 hh.2), if_neg e2]
  · rw [if_neg e, if_neg (fun hh => e hh.1)]
theorem es_dl {m : Int} {L : List It} {x : It} (h : Lk L) : es m (iso 1 L) (iso 2 L) x = iso 2 (dl m L x) := by
  unfold es dl
  rw [rfd_rfi h]
  by_cases e : rfd m L x = 0
  · rw [if_pos e, iso_snoc]
    by_cases e2 : x.sd = 2
    · rw [if_pos ⟨e, e2⟩, if_pos e2]
    · rw [if_neg (fun hh => e2 hh.2), if_neg e2]
  · rw [if_neg e, if_neg (fun hh => e hh.1)]
/-- the document's Enter, whatever comes. -/
theorem renter_any (r m : Int) (p : Option Addr) (c : Nat) (L : List It) (x : It) (w : World) (h : Li w p c L) (hn : L.length ≤ 4096) :
    Calls Tryz.prog 10 #[.agg #[.int .i64 r, .int .i64 m, .slice p L.length c], .agg #[.int .u64 x.id, .int .u32 x.mb, .int .i64 x.sd, .int .i64 x.ty, .int .i64 x.pr, .int .u64 x.qt]] w fun e w' => ∃ p' c', e = .returned (.tuple #[.agg #[.int .i64 r, .int .i64 m, .slice p' (dl m L x).length c'], .int .i64 (rfd m L x)]) ∧ Li w' p' c' (dl m L x) ∧ Below w.heap.size w w' ∧ ∀ g, OfP p' g → OfP p g ∨ w.heap.size ≤ g := by
  by_cases e : rfd m L x = 0
  · refine (renter_ok r m p c L x w h hn e).mono ?_
    rintro ex w' ⟨p', c', rfl, h1, h2, h3⟩
    refine ⟨p', c', ?_, ?_, h2, fun g hg => .inr (h3 g hg)⟩
    · unfold dl; rw [if_pos e, e, List.length_append]; rfl
    · unfold dl; rw [if_pos e]; exact h1
  · refine (renter_bad r m p c L x w h hn e).mono ?_
    rintro ex w' ⟨rfl, h2⟩
    refine ⟨p, c, ?_, ?_, h2, fun g hg => .inl hg⟩
    · unfold dl; rw [if_neg e]
    · unfold dl; rw [if_neg e]; exact h.on h2
/-- what Uncross comes to. -/
def ufl (r : Int) (L : List It) : List Fi := match quo r (iso 1 L) (iso 2 L) with | none => [] | some z => (trd z.pr ((iso 1 L).length + (iso 2 L).length) z.vo (iso 1 L) (iso 2 L)).1
def ull (r : Int) (L : List It) : List It × List It := match quo r (iso 1 L) (iso 2 L) with | none => (iso 1 L, iso 2 L) | some z => (trd z.pr ((iso 1 L).length + (iso 2 L).length) z.vo (iso 1 L) (iso 2 L)).2
def uqt (r : Int) (L : List It) : Qt := (quo r (iso 1 L) (iso 2 L)).getD q0
theorem ufl_len {r : Int} {L : List It} (h : Lk L) : (ufl r L).length ≤ 8192 := by
  unfold ufl
  split
  · simp
  · rename_i z _
    have h1 := trd_len z.pr ((iso 1 L).length + (iso 2 L).length) z.vo (iso 1 L) (iso 2 L)
    have h2 := h.lens
    have h3 := h.ln
    omega
theorem uncross_any (B : Nat) (r m : Int) (p1 : Option Addr) (c1 : Nat) (L : List It) (p2 : Option Addr) (c2 : Nat) (w : World) (h : Cl w B r m p1 c1 (iso 1 L) p2 c2 (iso 2 L)) :
    Calls Tryz.prog 19 #[.pointer (some ⟨B, 0, none⟩)] w fun e w' => ∃ pf cf, e = .returned (.tuple #[.slice pf (ufl r L).length cf, .agg (qrow (uqt r L)), .bool (quo r (iso 1 L) (iso 2 L)).isSome]) ∧ w'.ownsRow w.heap.size 67 4 (.slice pf (ufl r L).length cf) (ufl r L).length (frs (ufl r L)) ∧ Cl w' B r m p1 c1 (ull r L).1 p2 c2 (ull r L).2 ∧ Kp (fun g => g = B ∨ OfP p1 g ∨ OfP p2 g) w w' := by
  unfold ufl ull uqt
  cases hq : quo r (iso 1 L) (iso 2 L) with
  | none =>
    refine (uncross_none B r m p1 c1 (iso 1 L) p2 c2 (iso 2 L) w h hq).mono ?_
    rintro e w' ⟨rfl, hb⟩
    exact ⟨none, 0, rfl, ⟨rfl, .inl ⟨rfl, rfl⟩⟩, h.on hb, Kp.of _ hb⟩
  | some z =>
    refine (uncross_some B r m p1 c1 (iso 1 L) p2 c2 (iso 2 L) z w h hq).mono ?_
    rintro e w' ⟨pf, cf, rfl, h1, h2, h3⟩
    exact ⟨pf, cf, rfl, h1, h2, h3⟩
theorem runcross_any (r m : Int) (p : Option Addr) (c : Nat) (L : List It) (w : World) (h : Li w p c L) (hk : Lk L) (hr : isP r = true) :
    Calls Tryz.prog 20 #[.agg #[.int .i64 r, .int .i64 m, .slice p L.length c]] w fun e w' => ∃ p' c' L' pf cf, e = .returned (.tuple #[.agg #[.int .i64 r, .int .i64 m, .slice p' (L' : List It).length c'], .slice pf (ufl r L).length cf, .agg (qrow (uqt r L)), .bool (quo r (iso 1 L) (iso 2 L)).isSome]) ∧ Li w' p' c' L' ∧ Lk L' ∧ (iso 1 L', iso 2 L') = ull r L ∧ Fz w' pf cf (ufl r L) ∧ Below w.heap.size w w' ∧ (∀ g, OfP p' g → OfP p g ∨ w.heap.size ≤ g) := by
  have hd := dqt_quo (r := r) hk.ok (hk.sd 1) (hk.sd 2)
  unfold ufl ull uqt
  cases hq : quo r (iso 1 L) (iso 2 L) with
  | none =>
    refine (runcross_no r m p c L w h hk hr (hd.trans hq)).mono ?_
    rintro e w' ⟨rfl, hb⟩
    exact ⟨p, c, L, none, 0, rfl, h.on hb, hk, rfl, ⟨rfl, .inl ⟨rfl, rfl⟩⟩, hb, fun g hg => .inl hg⟩
  | some z =>
    refine (runcross_some r m p c L z w h hk hr (hd.trans hq) (quo_vg (hk.sd 1) (hk.sd 2) hq)).mono ?_
    rintro e w' ⟨p', c', L', pf, cf, rfl, h1, h2, h3, h4, h5, h6⟩
    exact ⟨p', c', L', pf, cf, rfl, h1, h2, h3, h4, h5, h6⟩
theorem rquote_same (r m : Int) (p : Option Addr) (c : Nat) (L : List It) (w : World) (h : Li w p c L) (hk : Lk L) (hr : isP r = true) :
    Calls Tryz.prog 18 #[.agg #[.int .i64 r, .int .i64 m, .slice p L.length c]] w fun e w' => e = .returned (.tuple #[.agg (qrow (uqt r L)), .bool (quo r (iso 1 L) (iso 2 L)).isSome]) ∧ Below w.heap.size w w' := by
  have := rquote_any r m p c L w h hk hr
  rw [dqt_quo (r := r) hk.ok (hk.sd 1) (hk.sd 2)] at this
  exact this
theorem rcurve_same (r m pr : Int) (p : Option Addr) (c : Nat) (L : List It) (w : World) (h : Li w p c L) (hk : Lk L) :
    Calls Tryz.prog 16 #[.agg #[.int .i64 r, .int .i64 m, .slice p L.length c], .int .i64 pr] w fun e w' => e = .returned (.tuple #[.int .u64 (wd pr (iso 1 L)), .int .u64 (wd pr (iso 2 L))]) ∧ Below w.heap.size w w' := by
  have := rcurve_any r m pr p c L w h hk.ln hk.ok
  rw [wd_b (hk.sd 1), wd_s (hk.sd 2)]
  exact this
theorem its_same (p p2 : Option Addr) (c c2 : Nat) (l : List It) (w : World) (h : Li w p c l) (h2 : Li w p2 c2 l) (hm : l.length ≤ 4096) :
    Calls Tryz.prog 24 #[.slice p l.length c, .slice p2 l.length c2] w fun e w' => e = .returned (.bool true) ∧ Below w.heap.size w w' := by
  obtain ⟨n, hn⟩ : ∃ n, l.length = n := ⟨_, rfl⟩
  have HN := hid hn
  have H1 := hid h
  have H2 := hid h2
  rw [hn] at hm ⊢
  clear hn h h2
  go_enter Tryz.func24, Tryz.ntmps24
  go_wp2_with fail
  go_loopw [5] (fun iv wr => ∃ i : Nat, i ≤ n ∧ iv = .int .i64 i ∧ Hid (Below w.heap.size w wr)) (fun iv _ => n - (intOf iv).toNat)
  case atStart => exact ⟨0, Nat.zero_le _, rfl, hid (Below.refl _ _)⟩
  case round =>
    obtain ⟨i, hin, rfl, HB⟩ := hrel
    by_cases hlt : i < n
    · have hil : i < l.length := by rw [HN.out]; exact hlt
      obtain ⟨g, hp, a0, a1, a2, a3, a4, a5⟩ := (H1.out.on HB.out).cells hil
      obtain ⟨g2, hp2, b0, b1, b2, b3, b4, b5⟩ := (H2.out.on HB.out).cells hil
      subst hp
      subst hp2
      obtain ⟨z, hz⟩ : ∃ z, l[i] = z := ⟨_, rfl⟩
      rw [hz] at a0 a1 a2 a3 a4 a5 b0 b1 b2 b3 b4 b5
      have i0' : (0 : Int) ≤ (i : Int) := by omega
      have i1 : (i : Int) < (n : Int) := by omega
      clear hz
      go_wp2_with fail
      go_region
      go_wp2
      go_roundw
      case rel => exact ⟨i + 1, by omega, by go_num, hid (btr HB.out (bdrew1 _))⟩
      case measure => simp [intOf]; omega
    · obtain rfl : i = n := by omega
      go_wp2
      go_ret
      exact ⟨rfl, HB.out⟩
theorem made_at (r m : Int) (w : World) (h : nwk r m = true) : Calls Tryz.prog 5 #[.int .i64 r, .int .i64 m] w fun e w' => ∃ X B, e = .returned (.tuple #[.pointer (some ⟨X, 0, none⟩), .bool true]) ∧ ∃ O, Pp w w' O X B r m [] none 0 none 0 none 0 := by
  have C1 := hid ((new_ok r m w h).mono (R' := fun e w' => e = .returned (.tuple #[.pointer (some ⟨w.heap.size, 0, none⟩), .int .i64 0]) ∧ Hid (w' = w.alloc (.cells #[.int .i64 r, .int .i64 m, .slice none 0 0, .slice none 0 0] 74))) (fun e w' h => ⟨h.1, hid h.2⟩))
  have C2 := hid (fun U => rnew_ok r m U h)
  have HC := hid (Cl.new w h)
  have pq : ∀ U, (binOp .eql 26 (.pointer (some ⟨w.heap.size, 0, none⟩)) (.pointer none)).run Tryz.prog U = .ok (.bool false) U := fun U => by first | exact run_eql_ptr_nil U 26 _ _ Tryz.underlying26 | kernel_rfl | rfl | simp [binOp, Op.equal, Op.equalIn, run_underlying Tryz.underlying26]
  clear h
  go_enter Tryz.func5, Tryz.ntmps5
  go_wp2_with (first | (go_at_call 8; with_reducible refine (C1.out).mono ?_; rintro e w1 ⟨rfl, HW1⟩) | (go_at_call 9; with_reducible refine (C2.out _).mono ?_; rintro e w2 ⟨rfl, hb⟩; have V2 := hid hb; clear hb))
  go_ret2
  have hc := HC.out
  rw [← HW1.out] at hc
  have hb1 : Below w.heap.size w w1 := by rw [HW1.out]; exact ball _ _
  have hb3 := btr (ball w2 (.cells #[.int .i64 r, .int .i64 m, .slice none 0 0] 29)) (ball (w2.alloc (.cells #[.int .i64 r, .int .i64 m, .slice none 0 0] 29)) (.cells #[.pointer (some ⟨w.heap.size, 0, none⟩), .int .i64 r, .int .i64 m, .slice none 0 0] 31))
  have hz1 := hb1.size
  have hz2 := V2.out.size
  have hz0 : w.heap.size < w1.heap.size := by rw [HW1.out]; simp
  have hrow : ((w2.alloc (.cells #[.int .i64 r, .int .i64 m, .slice none 0 0] 29)).alloc (.cells #[.pointer (some ⟨w.heap.size, 0, none⟩), .int .i64 r, .int .i64 m, .slice none 0 0] 31)).heap[w2.heap.size + 1]? = some (.cells #[.pointer (some ⟨w.heap.size, 0, none⟩), .int .i64 r, .int .i64 m, .slice none 0 0] 31 (0, 0)) := by
    have := World.alloc_heap_new (w2.alloc (.cells #[.int .i64 r, .int .i64 m, .slice none 0 0] 29)) (.cells #[.pointer (some ⟨w.heap.size, 0, none⟩), .int .i64 r, .int .i64 m, .slice none 0 0] 31)
    have e : (w2.alloc (.cells #[.int .i64 r, .int .i64 m, .slice none 0 0] 29)).heap.size = w2.heap.size + 1 := by simp
    rw [e] at this
    exact this
  refine ⟨w2.heap.size + 1, w.heap.size, rfl, fun g => g = w.heap.size ∨ g = w2.heap.size + 1, hrow, hc.on (btr V2.out hb3), Li.nil _, Lk.nil, btr hb1 (btr V2.out hb3), ?_, .inr rfl, .inl rfl, ?_, ?_, ?_⟩
  · rintro g (hg | hg) <;> cases hg
  · rintro g (hg | hg) <;> cases hg
  · intro g hg; cases hg
  · rintro g (hg | hg)
    · subst hg
      have := hb3.size
      exact ⟨Nat.le_refl _, by omega⟩
    · subst hg
      exact ⟨by omega, row_lt hrow⟩
/-- what a step comes to. -/
theorem Pp.done {w0 w V : World} {O : Nat → Prop} {X B : Nat} {r m : Int} {L : List It} {p1 : Option Addr} {c1 : Nat} {p2 : Option Addr} {c2 : Nat} {pL : Option Addr} {cL : Nat} (h : Pp w0 w O X B r m L p1 c1 p2 c2 pL cL) {r' : Int} {L' : List It} {q1 : Option Addr} {d1 : Nat} {q2 : Option Addr} {d2 : Nat} {p' : Option Addr} {c' : Nat}
    (hrow : V.heap[X]? = some (.cells #[.pointer (some ⟨B, 0, none⟩), .int .i64 r', .int .i64 m, .slice p' L'.length c'] 31 (0, 0))) (hcl : Cl V B r' m q1 d1 (iso 1 L') q2 d2 (iso 2 L')) (hli : Li V p' c' L') (hlk : Lk L')
    (hf : ∀ g, OfP q1 g ∨ OfP q2 g → (OfP p1 g ∨ OfP p2 g) ∨ w.heap.size ≤ g) (hfr : ∀ g, OfP p' g → OfP pL g ∨ w.heap.size ≤ g) (hap : ∀ g, OfP q1 g ∨ OfP q2 g → ¬ OfP p' g)
    (hk : Kp (fun g => g = X ∨ g = B ∨ OfP p1 g ∨ OfP p2 g) w V) : Nx w0 w V O X := by
  have hO : ∀ g, (g = X ∨ g = B ∨ OfP p1 g ∨ OfP p2 g) → O g := by
    rintro g (rfl | rfl | hg)
    · exact h.oX
    · exact h.oB
    · exact h.o1 g hg
  have hlt : ∀ g, OfP q1 g ∨ OfP q2 g → g < V.heap.size := by
    rintro g (hg | hg)
    · obtain ⟨cu, hc⟩ := hcl.l1.ty hg; exact row_lt hc
    · obtain ⟨cu, hc⟩ := hcl.l2.ty hg; exact row_lt hc
  have hsz := h.be.size
  refine ⟨fun g => g = X ∨ g = B ∨ (OfP q1 g ∨ OfP q2 g) ∨ OfP p' g, ⟨B, r', m, L', q1, d1, q2, d2, p', c', hrow, hcl, hli, hlk, h.be.trans (hk.below h.be.size (fun g hg hh => by have := (h.og g (hO g hh)).1; omega)), hap, .inl rfl, .inr (.inl rfl), fun g hg => .inr (.inr (.inl hg)), fun g hg => .inr (.inr (.inr hg)), ?_⟩, hk.mono (fun g _ hg => hO g hg), ?_⟩
  · rintro g (rfl | rfl | hg | hg)
    · exact ⟨(h.og g h.oX).1, row_lt hrow⟩
    · exact ⟨(h.og g h.oB).1, row_lt hcl.row⟩
    · refine ⟨?_, hlt g hg⟩
      rcases hf g hg with h1 | h1
      · exact (h.og g (h.o1 g h1)).1
      · omega
    · refine ⟨?_, by obtain ⟨cu, hc⟩ := hli.ty hg; exact row_lt hc⟩
      rcases hfr g hg with h1 | h1
      · exact (h.og g (h.oL g h1)).1
      · omega
  · rintro g (rfl | rfl | hg | hg)
    · exact .inl h.oX
    · exact .inl h.oB
    · exact (hf g hg).imp (h.o1 g) id
    · exact (hfr g hg).imp (h.oL g) id
/-- the document's call is laid anew. -/
theorem x_set {U : World} {X : Nat} {b r m v : Value} (h : U.heap[X]? = some (.cells #[b, r, m, v] 31 (0, 0))) (r' m' v' : Value) : (((U.setCell ⟨X, 1, none⟩ r').setCell ⟨X, 2, none⟩ m').setCell ⟨X, 3, none⟩ v').heap[X]? = some (.cells #[b, r', m', v'] 31 (0, 0)) ∧ Kp (fun j => j = X) U (((U.setCell ⟨X, 1, none⟩ r').setCell ⟨X, 2, none⟩ m').setCell ⟨X, 3, none⟩ v') := by
  have e1 := heap_setCell_same U X 1 _ _ r' h
  have e2 := heap_setCell_same _ X 2 _ _ m' e1
  have e3 := heap_setCell_same _ X 3 _ _ v' e2
  exact ⟨e3, ((Kp.set U X 1 _).trans (Kp.set _ X 2 _) (fun _ _ h => h)).trans (Kp.set _ X 3 _) (fun _ _ h => h)⟩
/-- an Enter: first the document's, then the program's. -/
theorem Pp.entered {w0 w Y Q V : World} {O : Nat → Prop} {X B : Nat} {r m : Int} {L : List It} {p1 : Option Addr} {c1 : Nat} {p2 : Option Addr} {c2 : Nat} {pL : Option Addr} {cL : Nat} (h : Pp w0 w O X B r m L p1 c1 p2 c2 pL cL) {L' : List It} {q1 : Option Addr} {d1 : Nat} {q2 : Option Addr} {d2 : Nat} {p' : Option Addr} {c' : Nat}
    (hb : Below w.heap.size w Y) (hli : Li Y p' c' L') (hlk : Lk L') (hfr : ∀ g, OfP p' g → OfP pL g ∨ w.heap.size ≤ g) (hq : Kp (fun j => j = X) Y Q) (hrow : Q.heap[X]? = some (.cells #[.pointer (some ⟨B, 0, none⟩), .int .i64 r, .int .i64 m, .slice p' L'.length c'] 31 (0, 0)))
    (hcl : Cl V B r m q1 d1 (iso 1 L') q2 d2 (iso 2 L')) (hf : ∀ g, OfP q1 g ∨ OfP q2 g → (OfP p1 g ∨ OfP p2 g) ∨ Q.heap.size ≤ g) (hk : Kp (fun j => j = B ∨ OfP p1 j ∨ OfP p2 j) Q V) : Nx w0 w V O X := by
  have hbs := hb.size
  have hqs := hq.size
  have hXY := row_on h.row hb
  have hcY := (h.cl.on hb).kept hq (fun e => row_ne h.cl.row h.row (by decide) e) (fun g hg e => by
    rcases hg with hg | hg
    · obtain ⟨cu, hc⟩ := h.cl.l1.ty hg; exact row_ne hc h.row (by decide) e
    · obtain ⟨cu, hc⟩ := h.cl.l2.ty hg; exact row_ne hc h.row (by decide) e)
  have hliQ := hli.kept hq (fun g hg e => by obtain ⟨cu, hc⟩ := hli.ty hg; exact row_ne hc hXY (by decide) e)
  have hap : ∀ g, (OfP p1 g ∨ OfP p2 g) → ¬ OfP p' g := fun g h1 h2 => by
    rcases hfr g h2 with h3 | h3
    · exact h.ap g h1 h3
    · have := (h.og g (h.o1 g h1)).2; omega
  have hpB : ∀ g, OfP p' g → g ≠ B := fun g hg e => by obtain ⟨cu, hc⟩ := hliQ.ty hg; exact row_ne hc hcY.row (by decide) e
  have nX : ∀ g, (g = B ∨ OfP p1 g ∨ OfP p2 g) → g ≠ X := by
    rintro g (rfl | hg | hg) e
    · exact row_ne h.cl.row h.row (by decide) e
    · obtain ⟨cu, hc⟩ := h.cl.l1.ty hg; exact row_ne hc h.row (by decide) e
    · obtain ⟨cu, hc⟩ := h.cl.l2.ty hg; exact row_ne hc h.row (by decide) e
  refine h.done (hk.row hrow (fun e => nX X e rfl)) hcl (hliQ.kept hk (fun g hg e => ?_)) hlk (fun g hg => (hf g hg).imp id (fun e => by omega)) hfr (fun g h1 h2 => ?_) ?_
  · rcases e with e | e
    · exact hpB g hg e
    · exact hap g e hg
  · rcases hf g h1 with h3 | h3
    · exact hap g h3 h2
    · obtain ⟨cu, hc⟩ := hli.ty h2
      have := row_lt hc
      omega
  · exact ((Kp.of (fun g => g = X ∨ g = B ∨ OfP p1 g ∨ OfP p2 g) hb).trans (hq.mono (C := fun g => g = X ∨ g = B ∨ OfP p1 g ∨ OfP p2 g) (fun g _ e => .inl e)) (fun g _ e => e)).trans (hk.mono (C := fun g => g = X ∨ g = B ∨ OfP p1 g ∨ OfP p2 g) (fun g _ e => .inr e)) (fun g _ e => e)
end Go.Proofs.YtnmkfdndfhefiaaGreat
