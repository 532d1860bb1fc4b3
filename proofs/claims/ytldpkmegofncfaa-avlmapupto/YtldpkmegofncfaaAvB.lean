/-
  with, turned. Written by mkb.py.
-/
import Derived.Test.YtldpkmegofncfaaAvA
namespace Go.Proofs.Ytldpkmegofncfaa
open Go.RowKit Go.Deep
set_option linter.unusedVariables false
set_option linter.unusedSimpArgs false
/-- a tree behind an address. -/
def Tq (w : World) (t : T) (q : Option Addr) : Prop := ∃ p, pa p = q ∧ Tr w t p
theorem tall_q {w : World} {t : T} {q : Option Addr} (h : Tq w t q) : Calls Try.prog 47 #[.pointer q] w fun e w' => e = .returned (.int .i64 t.h) ∧ w' = w := by
  obtain ⟨p, rfl, h⟩ := h
  exact tall_any h
theorem count_q {w : World} {t : T} {q : Option Addr} (h : Tq w t q) : Calls Try.prog 43 #[.pointer q] w fun e w' => e = .returned (.int .i64 t.n) ∧ w' = w := by
  obtain ⟨p, rfl, h⟩ := h
  exact count_any h
theorem Tq.on {w w' : World} {t : T} {q : Option Addr} (h : Tq w t q) (hb : Below w.heap.size w w') : Tq w' t q := by
  obtain ⟨p, rfl, h⟩ := h
  exact ⟨p, rfl, h.on hb⟩
theorem below_drews {a b : World} (h : b.heap = a.heap) (h1 : b.os = a.os) (h2 : b.tape = a.tape) (h3 : b.output = a.output) : Below a.heap.size a b := ⟨h1, h2, h3, by rw [h]; exact Nat.le_refl _, fun _ _ => by rw [h]⟩
theorem bdrew {w w' : World} (h : Below w.heap.size w w') : Below w.heap.size w w'.drew := h.trans (Below.mono (below_drews rfl rfl rfl rfl) h.size)

set_option maxHeartbeats 2000000 in
set_option maxRecDepth 100000 in
theorem with0 {w : World} {k v : Int} {l r u : T} {p q : Option Nat} (h : Tr w (.nd k v l r) p) (hu : Tr w u q) (hb : u.n + r.n < 2 ^ 62) :
    Calls Try.prog 51 #[pb p, .int .i64 0, pb q] w fun e w' => ∃ b, e = .returned (pb (some b)) ∧ Tr w' (.nd k v u r) (some b) ∧ Below w.heap.size w w' := by
  obtain ⟨b, pl, pr, rfl, h1, h2, h3⟩ := h
  generalize (T.nd k v l r).h = hh at *
  generalize (T.nd k v l r).n = hn at *
  have c0 : w.cell? ⟨b, 0, none⟩ = some (.int .i64 k) := row_cell h1 0
  have c1 : w.cell? ⟨b, 1, none⟩ = some (.int .i64 v) := row_cell h1 1
  have c2 : w.cell? ⟨b, 2, none⟩ = some (pb pl) := row_cell h1 2
  have c3 : w.cell? ⟨b, 3, none⟩ = some (pb pr) := row_cell h1 3
  have c4 : w.cell? ⟨b, 4, none⟩ = some (.int .i64 hh) := row_cell h1 4
  have c5 : w.cell? ⟨b, 5, none⟩ = some (.int .i64 hn) := row_cell h1 5
  have FIN := hid (show ∀ w', Below w.heap.size w w' → w'.heap[w.heap.size]? = some (.cells #[.int .i64 k, .int .i64 v, .pointer (pa q), .pointer (pa pr), .int .i64 (1 + max u.h r.h : Nat), .int .i64 (1 + u.n + r.n : Nat)] 68 (0, 0)) → Tr w' (.nd k v u r) (some w.heap.size) from by
    intro w' hb' hr
    exact ⟨w.heap.size, q, pr, rfl, hr, hu.on hb', h3.on hb'⟩)
  have TU := hid (show ∀ w', Below w.heap.size w w' → Tq w' u (pa q) from fun w' hb' => ⟨q, rfl, hu.on hb'⟩)
  have TR := hid (show ∀ w', Below w.heap.size w w' → Tq w' r (pa pr) from fun w' hb' => ⟨pr, rfl, h3.on hb'⟩)
  have hu1 := T.h_le_n u
  have hr1 := T.h_le_n r
  obtain ⟨z, hz⟩ : ∃ x, pa pl = x := ⟨_, rfl⟩
  obtain ⟨x, hx⟩ : ∃ x, pa q = x := ⟨_, rfl⟩
  obtain ⟨y, hy⟩ : ∃ y, pa pr = y := ⟨_, rfl⟩
  rw [pb, hz] at c2
  rw [pb, hy] at c3
  rw [hx] at TU FIN
  rw [hy] at TR FIN
  generalize hun : u.n = un at *
  generalize hrn : r.n = rn at *
  generalize huh : u.h = uh at *
  generalize hrh : r.h = rh at *
  have CU := hid (show ∀ w', Below w.heap.size w w' → Calls Try.prog 47 #[.pointer x] w' fun e w2 => e = .returned (.int .i64 uh) ∧ w2 = w' from by intro w' hb'; have := tall_q (TU.out w' hb'); rw [huh] at this; exact this)
  have CR := hid (show ∀ w', Below w.heap.size w w' → Calls Try.prog 47 #[.pointer y] w' fun e w2 => e = .returned (.int .i64 rh) ∧ w2 = w' from by intro w' hb'; have := tall_q (TR.out w' hb'); rw [hrh] at this; exact this)
  have NU := hid (show ∀ w', Below w.heap.size w w' → Calls Try.prog 43 #[.pointer x] w' fun e w2 => e = .returned (.int .i64 un) ∧ w2 = w' from by intro w' hb'; have := count_q (TU.out w' hb'); rw [hun] at this; exact this)
  have NR := hid (show ∀ w', Below w.heap.size w w' → Calls Try.prog 43 #[.pointer y] w' fun e w2 => e = .returned (.int .i64 rn) ∧ w2 = w' from by intro w' hb'; have := count_q (TR.out w' hb'); rw [hrn] at this; exact this)
  have ea : pb q = .pointer x := by rw [pb, hx]
  rw [ea]
  clear h1 h2 h3 hx hy hz hun hrn huh hrh hu ea
  simp only [pb, pa]
  go_enter Try.func51, Try.ntmps51
  go_wp2_with fail
  rename_i K A
  have HK := hid A
  clear A
  have B1 := hid (bdrew (ball w (.cells #[.int .i64 k, .int .i64 v, .pointer x, .pointer y, .int .i64 hh, .int .i64 hn] 68)))
  go_region_held3 (fun w' => w'.cell? ⟨w.heap.size, 2, none⟩ = some (.pointer x) ∧ w'.cell? ⟨w.heap.size, 3, none⟩ = some (.pointer y)) (go_keep) (first | (go_at_call 47; with_reducible refine (CU.out _ B1.out).mono ?_; rintro e w9 ⟨rfl, rfl⟩) | (go_at_call 47; with_reducible refine (CR.out _ B1.out).mono ?_; rintro e w9 ⟨rfl, rfl⟩))
  have hval : IntKind.i64.wrap (1 + if uh < rh then (rh : Int) else (uh : Int)) = ((1 + max uh rh : Nat) : Int) := by
    have : (1 + if uh < rh then (rh : Int) else (uh : Int)) = ((1 + max uh rh : Nat) : Int) := by split <;> omega
    rw [this]
    simp [IntKind.wrap, IntKind.bits, IntKind.signed]; omega
  rw [hval]
  clear hval
  refine HK.out _ _ ?_
  clear HK CU CR B1
  generalize hmx : (1 + max uh rh : Nat) = mx at *
  generalize (if uh < rh then (rh : Int) else (uh : Int)) = mm
  go_wp2_with fail
  rename_i K2 A2
  have HK := hid A2
  clear A2
  have B1 := hid (bdrew (bdrew (ball w (.cells #[.int .i64 k, .int .i64 v, .pointer x, .pointer y, .int .i64 mx, .int .i64 hn] 68))))
  go_region_held3 (fun w' => w'.cell? ⟨w.heap.size, 2, none⟩ = some (.pointer x) ∧ w'.cell? ⟨w.heap.size, 3, none⟩ = some (.pointer y)) (go_keep) (first | (go_at_call 43; with_reducible refine (NU.out _ B1.out).mono ?_; rintro e w9 ⟨rfl, rfl⟩) | (go_at_call 43; with_reducible refine (NR.out _ B1.out).mono ?_; rintro e w9 ⟨rfl, rfl⟩))
  have hval : IntKind.i64.wrap (IntKind.i64.wrap (1 + (un : Int)) + (rn : Int)) = ((1 + un + rn : Nat) : Int) := by
    simp [IntKind.wrap, IntKind.bits, IntKind.signed]; omega
  rw [hval]
  refine HK.out _ _ ?_
  clear HK NU NR B1 hval
  generalize hnx : (1 + un + rn : Nat) = nx at *
  generalize (IntKind.i64.wrap (1 + (un : Int))) = mm2
  go_wp2_with fail
  go_ret
  refine ⟨w.heap.size, rfl, FIN.out _ (bdrew (bdrew (ball _ _))) ?_, bdrew (bdrew (ball _ _))⟩
  rw [heap_drew, heap_drew]
  exact heap_alloc_new _ _

set_option maxHeartbeats 2000000 in
set_option maxRecDepth 100000 in
theorem with1 {w : World} {k v : Int} {l r u : T} {p q : Option Nat} (h : Tr w (.nd k v l r) p) (hu : Tr w u q) (hb : l.n + u.n < 2 ^ 62) :
    Calls Try.prog 51 #[pb p, .int .i64 1, pb q] w fun e w' => ∃ b, e = .returned (pb (some b)) ∧ Tr w' (.nd k v l u) (some b) ∧ Below w.heap.size w w' := by
  obtain ⟨b, pl, pr, rfl, h1, h2, h3⟩ := h
  generalize (T.nd k v l r).h = hh at *
  generalize (T.nd k v l r).n = hn at *
  have c0 : w.cell? ⟨b, 0, none⟩ = some (.int .i64 k) := row_cell h1 0
  have c1 : w.cell? ⟨b, 1, none⟩ = some (.int .i64 v) := row_cell h1 1
  have c2 : w.cell? ⟨b, 2, none⟩ = some (pb pl) := row_cell h1 2
  have c3 : w.cell? ⟨b, 3, none⟩ = some (pb pr) := row_cell h1 3
  have c4 : w.cell? ⟨b, 4, none⟩ = some (.int .i64 hh) := row_cell h1 4
  have c5 : w.cell? ⟨b, 5, none⟩ = some (.int .i64 hn) := row_cell h1 5
  have FIN := hid (show ∀ w', Below w.heap.size w w' → w'.heap[w.heap.size]? = some (.cells #[.int .i64 k, .int .i64 v, .pointer (pa pl), .pointer (pa q), .int .i64 (1 + max l.h u.h : Nat), .int .i64 (1 + l.n + u.n : Nat)] 68 (0, 0)) → Tr w' (.nd k v l u) (some w.heap.size) from by
    intro w' hb' hr
    exact ⟨w.heap.size, pl, q, rfl, hr, h2.on hb', hu.on hb'⟩)
  have TU := hid (show ∀ w', Below w.heap.size w w' → Tq w' l (pa pl) from fun w' hb' => ⟨pl, rfl, h2.on hb'⟩)
  have TR := hid (show ∀ w', Below w.heap.size w w' → Tq w' u (pa q) from fun w' hb' => ⟨q, rfl, hu.on hb'⟩)
  have hu1 := T.h_le_n l
  have hr1 := T.h_le_n u
  obtain ⟨z, hz⟩ : ∃ x, pa pr = x := ⟨_, rfl⟩
  obtain ⟨x, hx⟩ : ∃ x, pa pl = x := ⟨_, rfl⟩
  obtain ⟨y, hy⟩ : ∃ y, pa q = y := ⟨_, rfl⟩
  rw [pb, hx] at c2
  rw [pb, hz] at c3
  rw [hx] at TU FIN
  rw [hy] at TR FIN
  generalize hun : l.n = un at *
  generalize hrn : u.n = rn at *
  generalize huh : l.h = uh at *
  generalize hrh : u.h = rh at *
  have CU := hid (show ∀ w', Below w.heap.size w w' → Calls Try.prog 47 #[.pointer x] w' fun e w2 => e = .returned (.int .i64 uh) ∧ w2 = w' from by intro w' hb'; have := tall_q (TU.out w' hb'); rw [huh] at this; exact this)
  have CR := hid (show ∀ w', Below w.heap.size w w' → Calls Try.prog 47 #[.pointer y] w' fun e w2 => e = .returned (.int .i64 rh) ∧ w2 = w' from by intro w' hb'; have := tall_q (TR.out w' hb'); rw [hrh] at this; exact this)
  have NU := hid (show ∀ w', Below w.heap.size w w' → Calls Try.prog 43 #[.pointer x] w' fun e w2 => e = .returned (.int .i64 un) ∧ w2 = w' from by intro w' hb'; have := count_q (TU.out w' hb'); rw [hun] at this; exact this)
  have NR := hid (show ∀ w', Below w.heap.size w w' → Calls Try.prog 43 #[.pointer y] w' fun e w2 => e = .returned (.int .i64 rn) ∧ w2 = w' from by intro w' hb'; have := count_q (TR.out w' hb'); rw [hrn] at this; exact this)
  have ea : pb q = .pointer y := by rw [pb, hy]
  rw [ea]
  clear h1 h2 h3 hx hy hz hun hrn huh hrh hu ea
  simp only [pb, pa]
  go_enter Try.func51, Try.ntmps51
  go_wp2_with fail
  rename_i K A
  have HK := hid A
  clear A
  have B1 := hid (bdrew (ball w (.cells #[.int .i64 k, .int .i64 v, .pointer x, .pointer y, .int .i64 hh, .int .i64 hn] 68)))
  go_region_held3 (fun w' => w'.cell? ⟨w.heap.size, 2, none⟩ = some (.pointer x) ∧ w'.cell? ⟨w.heap.size, 3, none⟩ = some (.pointer y)) (go_keep) (first | (go_at_call 47; with_reducible refine (CU.out _ B1.out).mono ?_; rintro e w9 ⟨rfl, rfl⟩) | (go_at_call 47; with_reducible refine (CR.out _ B1.out).mono ?_; rintro e w9 ⟨rfl, rfl⟩))
  have hval : IntKind.i64.wrap (1 + if uh < rh then (rh : Int) else (uh : Int)) = ((1 + max uh rh : Nat) : Int) := by
    have : (1 + if uh < rh then (rh : Int) else (uh : Int)) = ((1 + max uh rh : Nat) : Int) := by split <;> omega
    rw [this]
    simp [IntKind.wrap, IntKind.bits, IntKind.signed]; omega
  rw [hval]
  clear hval
  refine HK.out _ _ ?_
  clear HK CU CR B1
  generalize hmx : (1 + max uh rh : Nat) = mx at *
  generalize (if uh < rh then (rh : Int) else (uh : Int)) = mm
  go_wp2_with fail
  rename_i K2 A2
  have HK := hid A2
  clear A2
  have B1 := hid (bdrew (bdrew (ball w (.cells #[.int .i64 k, .int .i64 v, .pointer x, .pointer y, .int .i64 mx, .int .i64 hn] 68))))
  go_region_held3 (fun w' => w'.cell? ⟨w.heap.size, 2, none⟩ = some (.pointer x) ∧ w'.cell? ⟨w.heap.size, 3, none⟩ = some (.pointer y)) (go_keep) (first | (go_at_call 43; with_reducible refine (NU.out _ B1.out).mono ?_; rintro e w9 ⟨rfl, rfl⟩) | (go_at_call 43; with_reducible refine (NR.out _ B1.out).mono ?_; rintro e w9 ⟨rfl, rfl⟩))
  have hval : IntKind.i64.wrap (IntKind.i64.wrap (1 + (un : Int)) + (rn : Int)) = ((1 + un + rn : Nat) : Int) := by
    simp [IntKind.wrap, IntKind.bits, IntKind.signed]; omega
  rw [hval]
  refine HK.out _ _ ?_
  clear HK NU NR B1 hval
  generalize hnx : (1 + un + rn : Nat) = nx at *
  generalize (IntKind.i64.wrap (1 + (un : Int))) = mm2
  go_wp2_with fail
  go_ret
  refine ⟨w.heap.size, rfl, FIN.out _ (bdrew (bdrew (ball _ _))) ?_, bdrew (bdrew (ball _ _))⟩
  rw [heap_drew, heap_drew]
  exact heap_alloc_new _ _
end Go.Proofs.Ytldpkmegofncfaa
