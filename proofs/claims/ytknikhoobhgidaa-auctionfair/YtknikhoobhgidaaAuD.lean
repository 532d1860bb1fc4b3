/-
  A call lies in memory; its length, its curve, its interests.
-/
import Derived.Test.YtknikhoobhgidaaAuC
namespace Go.Proofs.Ytknikhoobhgidaa
open Go.RowKit Go.Deep
set_option linter.unusedVariables false
set_option linter.unusedSimpArgs false
set_option maxHeartbeats 2000000
set_option maxRecDepth 100000
/-- a call of two sides. -/
structure Cl (w : World) (B : Nat) (r m : Int) (p1 : Option Addr) (c1 : Nat) (b : List It) (p2 : Option Addr) (c2 : Nat) (s : List It) : Prop where
  row : w.heap[B]? = some (.cells #[.int .i64 r, .int .i64 m, .slice p1 b.length c1, .slice p2 s.length c2] 68 (0, 0))
  l1 : Li w p1 c1 b
  l2 : Li w p2 c2 s
  s1 : Sd 1 b
  s2 : Sd 2 s
  ap : ∀ g, OfP p1 g → ¬ OfP p2 g
  r0 : 0 ≤ r
  r1 : r < 262144
  m0 : 1 ≤ m
  m1 : m ≤ 4096
  mb : (b.length : Int) + s.length ≤ m
theorem Cl.on {w w' : World} {B : Nat} {r m : Int} {p1 : Option Addr} {c1 : Nat} {b : List It} {p2 : Option Addr} {c2 : Nat} {s : List It} (h : Cl w B r m p1 c1 b p2 c2 s) (hb : Below w.heap.size w w') : Cl w' B r m p1 c1 b p2 c2 s :=
  ⟨row_on h.row hb, h.l1.on hb, h.l2.on hb, h.s1, h.s2, h.ap, h.r0, h.r1, h.m0, h.m1, h.mb⟩
theorem row4 {w : World} {g : Nat} {t : TypeId} {a0 a1 a2 a3 : Value} (h : w.heap[g]? = some (.cells #[a0, a1, a2, a3] t (0, 0))) : w.cell? ⟨g, 0, none⟩ = some a0 ∧ w.cell? ⟨g, 1, none⟩ = some a1 ∧ w.cell? ⟨g, 2, none⟩ = some a2 ∧ w.cell? ⟨g, 3, none⟩ = some a3 :=
  ⟨row_cell h 0, row_cell h 1, row_cell h 2, row_cell h 3⟩
theorem Cl.cells {w : World} {B : Nat} {r m : Int} {p1 : Option Addr} {c1 : Nat} {b : List It} {p2 : Option Addr} {c2 : Nat} {s : List It} (h : Cl w B r m p1 c1 b p2 c2 s) : w.cell? ⟨B, 0, none⟩ = some (.int .i64 r) ∧ w.cell? ⟨B, 1, none⟩ = some (.int .i64 m) ∧ w.cell? ⟨B, 2, none⟩ = some (.slice p1 b.length c1) ∧ w.cell? ⟨B, 3, none⟩ = some (.slice p2 s.length c2) := row4 h.row
theorem len_any (B : Nat) (r m : Int) (p1 : Option Addr) (c1 : Nat) (b : List It) (p2 : Option Addr) (c2 : Nat) (s : List It) (w : World) (h : Cl w B r m p1 c1 b p2 c2 s) :
    Calls Try.prog 17 #[.pointer (some ⟨B, 0, none⟩)] w fun e w' => e = .returned (.int .i64 ((b.length : Int) + s.length)) ∧ ∃ n, w' = w.drewN n := by
  obtain ⟨k0, k1, k2, k3⟩ := h.cells
  have hb := h.s1.ln
  have hs := h.s2.ln
  have a1 : IntKind.i64.wrap ((b.length : Int) + (s.length : Int)) = (b.length : Int) + s.length := by rw [IntKind.wrap_i64]; omega
  clear h
  go_enter Try.func17, Try.ntmps17
  go_upto_region 1 with fail
  go_quiet (first | (go_at_call 28; with_reducible exact Calls.quiet_of_same (of1 B _)) | (go_at_call 28; with_reducible exact Calls.quiet_of_same (of2 B _)))
  go_wp2
  go_ret
  exact ⟨rfl, _, rfl⟩
theorem curve_any (B : Nat) (r m p : Int) (p1 : Option Addr) (c1 : Nat) (b : List It) (p2 : Option Addr) (c2 : Nat) (s : List It) (w : World) (h : Cl w B r m p1 c1 b p2 c2 s) :
    Calls Try.prog 21 #[.pointer (some ⟨B, 0, none⟩), .int .i64 p] w fun e w' => e = .returned (.tuple #[.int .u64 (wd p b), .int .u64 (wd p s)]) ∧ Below w.heap.size w w' := by
  obtain ⟨k0, k1, k2, k3⟩ := h.cells
  have C1 := hid (would_any 1 p p1 c1 b w h.l1 h.s1)
  have C2 := hid (fun U hU => on_b (would_any 2 p p2 c2 s U (h.l2.on hU) h.s2) hU)
  have HC := hid h
  have O1 := hid (fun U => of1 B U)
  have O2 := hid (fun U => of2 B U)
  clear h
  go_enter Try.func21, Try.ntmps21
  go_wp2_with (first | (go_at_call 28; with_reducible refine (O1.out _).mono ?_; rintro e w1 ⟨rfl, rfl⟩) | (go_at_call 28; with_reducible refine (O2.out _).mono ?_; rintro e w1 ⟨rfl, rfl⟩) | (go_at_call 37; with_reducible refine (C1.out).mono ?_; rintro e w2 ⟨rfl, hb⟩; have HB := hid hb; obtain ⟨k0, k1, k2, k3⟩ := (HC.out.on hb).cells; clear hb) | (go_at_call 37; with_reducible refine (C2.out _ HB.out).mono ?_; rintro e w3 ⟨rfl, HB3⟩))
  go_ret2
  exact ⟨rfl, HB3.out⟩
theorem info_parts {e : TypeId} {z : Value} {size bytes : Nat} (h : (Try.prog.info? e).map (fun i => (i.zero, i.size, i.bytes)) = some (some z, size, bytes)) : ∃ i0, Try.prog.info? e = some i0 ∧ i0.zero = some z ∧ i0.size = size ∧ i0.bytes = bytes := by
  cases hq : Try.prog.info? e with
  | none => rw [hq] at h; cases h
  | some i =>
    rw [hq] at h
    simp only [Option.map_some, Option.some.injEq, Prod.mk.injEq] at h
    exact ⟨i, rfl, h.1, h.2.1, h.2.2⟩
theorem infoIt : (Try.prog.info? 36).map (fun i => (i.zero, i.size, i.bytes)) = some (some (.agg #[.int .u64 0, .int .u32 0, .int .i64 0, .int .i64 0, .int .i64 0, .int .u64 0]), 6, 48) := by kernel_rfl
theorem made0 {w : World} (U : World) (t : TypeId) (size : Nat) (h : w.heap.size ≤ U.heap.size) : (U.alloc (.cells #[] t)).ownsRow w.heap.size t size (.slice (some ⟨U.heap.size, 0, none⟩) 0 0) 0 [] := World.ownsRow_made U #[] 0 h (by unfold maxLen; omega) (by simp)
theorem own_cells {base : Nat} {w : World} {e : TypeId} {size n c : Nat} {ad : Addr} {xs : List Value} (h : w.ownsRow base e size (.slice (some ad) n c) n xs) : xs.length = n * size ∧ ∀ j u, xs[j]? = some u → w.cell? (ad.add j) = some u := by
  obtain ⟨h1, ⟨e', e2⟩ | ⟨g, c', cur, e', r1, r2, r3, r4, r5, r6⟩⟩ := h
  · cases (Value.slice.inj e').1
  · obtain ⟨e3, _, rfl⟩ := Value.slice.inj e'
    injection e3 with e3
    subst e3
    refine ⟨h1, fun j u hj => ?_⟩
    rw [Addr.add_lit, Nat.zero_add, row_cell r2]
    have hl := (List.getElem?_eq_some_iff.1 hj).1
    have := congrArg (fun z => z[j]?) r6
    simp only [List.getElem?_take, show j < n * size by omega, if_true, Array.getElem?_toList] at this
    rw [this, hj]
/-- one's own rows are put behind an empty slice of one's own. -/
theorem wpList_app_mine {w : World} {ops : Array Oper} {rest : List Oper} {oo : Oper} {a : Act} {Q : Exit → Act → World → Prop} (hgd : oo.guard = none) (s x : Operand) (t e : TypeId) (z : Value) (size bytes : Nat)
    (ho : oo.op = .call { callee := .builtin .append, args := #[s, x], argTypes := #[t, t] }) (ht : Try.prog.underlying t = some (.slice e)) (hinf : (Try.prog.info? e).map (fun i => (i.zero, i.size, i.bytes)) = some (some z, size, bytes)) (hzs : z.cells.size = size) (hsz : 0 < size)
    (base base2 : Nat) (v : Value) (n : Nat) (ys : List Value) (hs : a.eval s = v) (hown : w.ownsRow base e size v n ys)
    (q : Option Addr) (c m : Nat) (xs : List Value) (hx : a.eval x = .slice q m c) (ho2 : w.ownsRow base2 e size (.slice q m c) m xs) (h1 : ∀ u ∈ xs, u.oneCell' = true)
    (h63 : n + m ≤ maxLen) (hbytes : (n + m) * bytes ≤ 140737488355328) (hbase : base ≤ w.heap.size)
    (h : ∀ v' w', w'.ownsRow base e size v' (n + m) (ys ++ xs) → w.grownBy w' v.ownBlock → wpList Try.prog ops Q rest (a.put oo.dst v') w') : wpList Try.prog ops Q (oo :: rest) a w := by
  obtain ⟨i0, hi, hz0, hz1, hz2⟩ := info_parts hinf
  cases q with
  | none =>
    obtain ⟨h2, ⟨e1, e2⟩ | ⟨g, c', cur, e1, _⟩⟩ := ho2
    · obtain ⟨_, h3, rfl⟩ := Value.slice.inj e1
      subst h3
      obtain rfl : xs = [] := List.length_eq_zero_iff.1 (by simpa using h2)
      exact wpList_append_own_none hgd s x t ho base e i0 size ht hi v n ys hs hown hx (h v w (by simpa using hown) (grown_refl _ _))
    · cases (Value.slice.inj e1).1
  | some ad =>
    obtain ⟨k1, k2⟩ := own_cells ho2
    exact wpList_append_own _ hgd s x t ho base e i0 _ size bytes ht hi hz0 hz1 hz2 hzs hsz v n ys hs hown ad m c xs hx k1 k2 h1 h63 hbytes hbase (fun v' w' h2 h3 _ => h v' w' h2 h3)
theorem nilI (U : World) (a : Option Addr) (n c : Nat) : (binOp .eql 65 (.slice a n c) (.slice none 0 0)).run Try.prog U = .ok (.bool a.isNone) U := Lib.run_eql_slice_nil U 65 36 a n c 0 0 Try.underlying65
theorem cloneI_any (q : Option Addr) (c : Nat) (l : List It) (w : World) (h : Li w q c l) (hl : l.length ≤ 4096) :
    Calls Try.prog 27 #[.slice q l.length c] w fun e w' => ∃ p' c', e = .returned (.slice p' l.length c') ∧ Li w' p' c' l ∧ Below w.heap.size w w' ∧ ∀ g, OfP p' g → w.heap.size ≤ g := by
  cases q with
  | none =>
    obtain ⟨rfl, rfl⟩ := h.none'
    clear h hl
    have nq := nilI
    go_enter Try.func27, Try.ntmps27
    go_wp2
    go_ret
    exact ⟨none, 0, rfl, Li.nil _, Below.refl _ _, fun g hg => by cases hg⟩
  | some ad =>
    obtain ⟨n, hn⟩ : ∃ n, l.length = n := ⟨_, rfl⟩
    have HM := hid (made0 w 36 6 (Nat.le_refl w.heap.size))
    have HL := hid (show (w.alloc (.cells #[] 36)).ownsRow 0 36 6 (.slice (some ad) n c) n (its l) from by rw [← hn]; exact h.on (ball _ _))
    have HN := hid hn
    rw [hn] at hl ⊢
    clear h hn
    have nq := nilI
    go_enter Try.func27, Try.ntmps27
    go_wp2_with (at_builtin; refine wpList_app_mine (by rfl) (.tmp 5) (.tmp 6) 65 36 _ 6 48 (by rfl) Try.underlying65 infoIt rfl (by decide) w.heap.size 0 _ 0 [] (by rfl) HM.out (some ad) c n (its l) (by rfl) HL.out (its_one l) (by unfold maxLen; omega) (by omega) (by simp) ?_; intro v' w' hown hgrow; obtain ⟨p1, q1, rfl⟩ := own_form hown; have HO1 := hid hown; have HG1 := hid hgrow; clear hown hgrow)
    go_ret
    have hO := HO1.out
    have hO2 : w'.ownsRow w.heap.size 36 6 (.slice p1 (0 + n) q1) (0 + n) (its l) := hO
    simp only [Nat.zero_add] at hO2 ⊢
    refine ⟨p1, q1, by simp, ?_, (ball _ _).grown HG1.out (by simp) (fun j hj => by cases hj; exact Nat.le_refl _), fun g hg => ?_⟩
    · unfold Li; rw [HN.out]; exact own_base hO2 (Nat.zero_le _)
    · subst hg
      obtain ⟨_, ⟨e1, _⟩ | ⟨g', c', cur, e1, r1, _⟩⟩ := hO2
      · cases (Value.slice.inj e1).1
      · have := (Value.slice.inj e1).1
        injection this with this
        injection this with this
        omega
end Go.Proofs.Ytknikhoobhgidaa
