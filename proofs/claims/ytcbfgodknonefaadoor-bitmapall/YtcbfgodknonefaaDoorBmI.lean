/-
  ahead, Len, Count: how many ticks there are below a number.
-/
import Derived.Test.YtcbfgodknonefaaDoorBmH
namespace Go.Proofs.YtcbfgodknonefaaDoor
open Go.RowKit Go.Deep Bt
set_option linter.unusedVariables false
set_option maxRecDepth 100000
set_option maxHeartbeats 2000000
attribute [local go_sem] Oper.semAt_some

/-- how many of the first words' bits are set. -/
def cw (S : Nat → Bool) : Nat → Nat
  | 0 => 0
  | i + 1 => cw S i + pop (lo S i)
/-- how many ticks there are below a number. -/
def cn (S : Nat → Bool) : Nat → Nat
  | 0 => 0
  | i + 1 => cn S i + (S i).toNat
theorem cn_word (S : Nat → Bool) (i r : Nat) (hr : r ≤ 64) : cn S (64 * i + r) = cn S (64 * i) + popn (lo S i) r := by
  induction r with
  | zero => rfl
  | succ r ih =>
    rw [← Nat.add_assoc, cn, ih (by omega), popn, lo_bit S i r (by omega)]; omega
theorem cw_cn (S : Nat → Bool) (i : Nat) : cw S i = cn S (64 * i) := by
  induction i with
  | zero => rfl
  | succ i ih => rw [cw, ih, show 64 * (i + 1) = 64 * i + 64 by omega, cn_word S i 64 (by omega)]; rfl
theorem popn_mod (x r n : Nat) (h : r ≤ n) : popn (x % 2 ^ r) n = popn x r := by
  induction n with
  | zero => have : r = 0 := by omega
            subst this; rfl
  | succ n ih =>
    rw [popn, Nat.testBit_mod_two_pow]
    by_cases e : r = n + 1
    · subst e
      rw [popn_ext (x := x % 2 ^ (n + 1)) (y := x) (fun i hi => by rw [Nat.testBit_mod_two_pow]; simp; omega)]
      simp [popn]
    · rw [ih (by omega)]
      have : ¬ n < r := by omega
      simp [this]
theorem cn_le (S : Nat → Bool) (n : Nat) : cn S n ≤ n := by
  induction n with
  | zero => exact Nat.le_refl _
  | succ n ih => unfold cn; have : (S n).toNat ≤ 1 := Bool.toNat_le _; omega
theorem pop_zero : pop 0 = 0 := popn_zero 64
/-- what ahead says. -/
def ahd (S : Nat → Bool) (t : Int) : Nat := cn S (min t.toNat 262144)
theorem ahd_eq (S : Nat → Bool) (t : Nat) : pop (loI S ((t / 64 : Nat) : Int) % 2 ^ (t % 64)) + cw S (min (t / 64) 4096) = ahd S (t : Int) := by
  unfold ahd
  rw [Int.toNat_natCast, cw_cn]
  by_cases h : t < 262144
  · rw [Nat.min_eq_left (by omega : t / 64 ≤ 4096), Nat.min_eq_left (by omega)]
    have e : loI S ((t / 64 : Nat) : Int) = lo S (t / 64) := by unfold loI; rw [if_pos (by omega), Int.toNat_natCast]
    rw [e]
    unfold pop
    rw [popn_mod _ _ _ (by omega)]
    have := cn_word S (t / 64) (t % 64) (by omega)
    rw [show 64 * (t / 64) + t % 64 = t by omega] at this
    omega
  · rw [Nat.min_eq_right (by omega), Nat.min_eq_right (by omega)]
    have e : loI S ((t / 64 : Nat) : Int) = 0 := by unfold loI; rw [if_neg (by omega)]
    rw [e, Nat.zero_mod, pop_zero, Nat.zero_add]

theorem row_cell {w : World} {g : Nat} {t : TypeId} {cs : Array Value} (h : w.heap[g]? = some (.cells cs t (0, 0))) (j : Nat) : w.cell? ⟨g, j, none⟩ = cs[j]? := cell_of_row w g j cs t (0, 0) h
theorem Laid.on {w w' : World} {n : Nat} (h : Laid w) (k : Below n w w') (hn : 0 < n) : Laid w' := fun i hi => by rw [k.cell (p := ⟨0, i, none⟩) hn]; exact h i hi
theorem blind_pure {B : Nat} (p : Prop) : Blind B (fun _ => p) := fun _ _ _ h _ _ => h
theorem blind_row {B k : Nat} {o : Obj} (hk : k < B) : Blind B (fun W => W.heap[k]? = some o) := fun W W' row h hg hr => by
  rw [← h]
  exact hg.block k (Array.getElem?_eq_some_iff.1 h).1 (fun e => by have := (hr _ e.symm).1; omega)
theorem blind_below {n B : Nat} {w : World} (hn : n ≤ w.heap.size) (hB : n ≤ B) : Blind B (fun W => Below n w W) := fun W W' row h hg hr => h.grown hg (Nat.le_trans hn h.size) (fun k e => Nat.le_trans hB (hr k e).1)
theorem Blind.and {B : Nat} {I J : World → Prop} (h : Blind B I) (k : Blind B J) : Blind B (fun W => I W ∧ J W) := fun W W' row hs hg hr => ⟨h W W' row hs.1 hg hr, k W W' row hs.2 hg hr⟩
theorem World.heap_drew' (w : World) : w.drew.heap = w.heap := rfl
theorem ahead_nat (b : Nat) (S : Nat → Bool) (t : Int) (t' : Nat) (w : World) (hB : Bm w b S) (hL : Laid w) (ht : max t 0 = (t' : Int)) (ht2 : t' < 9223372036854775808) :
    Calls Tryd.prog 41 #[.pointer (some ⟨b, 0, none⟩), .int .i64 t] w fun e w' => e = .returned (.int .i64 (ahd S (t' : Int) : Nat)) ∧ Below w.heap.size w w' := by
  have HB := hid hB
  have HL := hid hL
  obtain ⟨q, hq⟩ : ∃ q, t' / 64 = q := ⟨_, rfl⟩
  obtain ⟨r, hr⟩ : ∃ r, t' % 64 = r := ⟨_, rfl⟩
  have HE := hid (ahd_eq S t')
  rw [hq, hr] at HE
  have e1 : (t' : Int) / 64 = (q : Int) := by omega
  have e2 : (t' : Int) % 64 = (r : Int) := by omega
  have r64 : r < 64 := by omega
  have q1 : q < 144115188075855872 := by omega
  obtain ⟨x, hx⟩ : ∃ x, loI S (q : Int) = x := ⟨_, rfl⟩
  have x1 : x < 18446744073709551616 := by rw [← hx]; unfold loI; split; exact lo_lt _ _; decide
  obtain ⟨y, hy⟩ : ∃ y, x % 2 ^ r = y := ⟨_, rfl⟩
  have y1 : y < 18446744073709551616 := by rw [← hy]; exact Nat.lt_of_le_of_lt (Nat.mod_le _ _) x1
  rw [hx, hy] at HE
  have C20 := hid (fun (w : World) (hB : Bm w b S) => low_any b S (q : Int) w hB)
  rw [hx] at C20
  have C44 := hid (fun w => notAbove_any x r w x1 (by omega))
  rw [hy] at C44
  have C47 := hid (fun w => ones_any y w y1)
  obtain ⟨p, hp⟩ : ∃ p, pop y = p := ⟨_, rfl⟩
  rw [hp] at C47 HE
  have p1 : p ≤ 64 := by rw [← hp]; exact popn_le _ _
  clear hB hL hq hr hx hy hp
  refine (callsIn_wide (n := 5)).1 ?_
  refine callsIn_of_wp_marks Tryd.func41 rfl trivial ?_ rfl
  simp only [Tryd.ntmps41, List.size_toArray, List.length_cons, List.length_nil, Nat.reduceAdd, Nat.reduceSub, Array.replicate_succ, Array.replicate_zero, List.push_toArray, List.append_toArray, List.nil_append, List.cons_append]
  have n1 : (1 : Nat) ≤ 5 := by omega
  gi_wp2_with (first | (refine ⟨trivial, ?_⟩; gi_at_call 20; refine (callsIn_wide.2 (C20.out _ (HB.out.on (((Below.refl _ w).alloc (Nat.le_refl _) _).alloc (by simp) _)))).mono ?_; rintro e w' ⟨rfl, rfl⟩) | (refine ⟨trivial, ?_⟩; gi_at_call 44; refine (callsIn_wide.2 (C44.out _)).mono ?_; rintro e w' ⟨rfl, rfl⟩) | (refine ⟨trivial, ?_⟩; gi_at_call 47; refine (callsIn_wide.2 (C47.out _)).mono ?_; rintro e w' ⟨rfl, rfl⟩))
  have A0 : (w.alloc (.cells #[.pointer (some ⟨b, 0, none⟩)] 23)).heap.size = w.heap.size + 1 := by simp
  have A1 : ((w.alloc (.cells #[.pointer (some ⟨b, 0, none⟩)] 23)).alloc (.cells #[.int .i64 q] 3)).heap.size = w.heap.size + 2 := by simp
  obtain ⟨W0, hW0⟩ : ∃ W0, (((w.alloc (.cells #[.pointer (some ⟨b, 0, none⟩)] 23)).alloc (.cells #[.int .i64 q] 3)).alloc (.cells #[.int .i64 p] 3)) = W0 := ⟨_, rfl⟩
  have A2 : W0.heap.size = w.heap.size + 3 := by rw [← hW0]; simp
  have B0 : Below w.heap.size w W0 := by rw [← hW0]; exact (((Below.refl _ w).alloc (Nat.le_refl _) _).alloc (by simp) _).alloc (by simp; omega) _
  have R0 : W0.heap[w.heap.size]? = some (.cells #[.pointer (some ⟨b, 0, none⟩)] 23 (0, 0)) := by
    rw [← hW0, Below.heap_alloc _ _ _ (by rw [A1]; omega), Below.heap_alloc _ _ _ (by rw [A0]; omega)]; exact World.alloc_heap_new _ _
  have R1 : W0.heap[w.heap.size + 1]? = some (.cells #[.int .i64 q] 3 (0, 0)) := by
    rw [← hW0, Below.heap_alloc _ _ _ (by rw [A1]; omega), ← A0]; exact World.alloc_heap_new _ _
  have R2 : W0.heap[w.heap.size + 1 + 1]? = some (.cells #[.int .i64 p] 3 (0, 0)) := by
    rw [← hW0, show w.heap.size + 1 + 1 = w.heap.size + 2 from rfl, ← A1]; exact World.alloc_heap_new _ _
  rw [hW0]
  clear hW0 A0 A1
  refine range_words (by omega) (b := b) (S := S) rfl rfl
    (fun i W => Below w.heap.size w W ∧ W.heap[w.heap.size]? = some (.cells #[.pointer (some ⟨b, 0, none⟩)] 23 (0, 0)) ∧ W.heap[w.heap.size + 1]? = some (.cells #[.int .i64 q] 3 (0, 0)) ∧ W.heap[w.heap.size + 1 + 1]? = some (.cells #[.int .i64 ((p + cw S (min i q) : Nat) : Int)] 3 (0, 0)))
    (fun c W => c = .exit 0 ∧ Below w.heap.size w W ∧ W.heap[w.heap.size + 1 + 1]? = some (.cells #[.int .i64 ((p + cw S (min 4096 q) : Nat) : Int)] 3 (0, 0)))
    ?hB ?hs ?hI ?hIx ?hal ?h0
    (fun i => { tmps := #[Value.pointer (some ⟨b, 0, none⟩), Value.int IntKind.i64 t', Value.pointer (some ⟨w.heap.size, 0, none⟩), undef, Value.int IntKind.i64 0, Value.pointer (some ⟨w.heap.size + 1, 0, none⟩), Value.pointer (some ⟨w.heap.size + 1 + 1, 0, none⟩), Value.int IntKind.i64 i, Value.int IntKind.i64 t, Value.int IntKind.i64 t', Value.int IntKind.i64 t', Value.int IntKind.i64 q, Value.pointer (some ⟨b, 0, none⟩), Value.int IntKind.i64 q, Value.int IntKind.u64 x, Value.int IntKind.i64 t', Value.int IntKind.i64 r, Value.int IntKind.i64 ((r : Int) - 1), Value.int IntKind.u64 y, Value.int IntKind.i64 p, Value.pointer (some ⟨b, 0, none⟩), Value.func (Fn.func 46) #[Value.pointer (some ⟨b, 0, none⟩)] #[], Value.int IntKind.i64 i, undef, undef, undef, undef, undef, undef, undef, undef, undef, undef, undef, undef, undef], defers := [] })
    ?assign ?body ?done ?stop
  case hB => 
    rintro i W ⟨hb, _⟩
    exact ⟨HB.out.on hb, HL.out.on hb (by have := HB.out.lt; omega)⟩
  case hs => 
    rintro i W hi hz ⟨hb, c0, c1, c2⟩
    refine ⟨hb, c0, c1, ?_⟩
    rw [c2]
    by_cases h : i < q
    · rw [Nat.min_eq_left (by omega), Nat.min_eq_left (by omega), cw, hz, pop_zero]; rfl
    · rw [Nat.min_eq_right (by omega), Nat.min_eq_right (by omega)]
  case hI => 
    intro i
    exact (blind_below (Nat.le_refl _) (by omega)).and ((blind_row (by omega)).and ((blind_row (by omega)).and (blind_row (by omega))))
  case hIx => 
    intro c
    exact (blind_pure _).and ((blind_below (Nat.le_refl _) (by omega)).and (blind_row (by omega)))
  case hal => 
    rintro W o ⟨hb, c0, c1, c2⟩
    have l0 := (Array.getElem?_eq_some_iff.1 c0).1
    have l1 := (Array.getElem?_eq_some_iff.1 c1).1
    have l2 := (Array.getElem?_eq_some_iff.1 c2).1
    exact ⟨hb.alloc (by omega) _, (Below.heap_alloc _ _ _ l0).trans c0, (Below.heap_alloc _ _ _ l1).trans c1, (Below.heap_alloc _ _ _ l2).trans c2⟩
  case h0 => 
    refine ⟨B0, R0, R1, ?_⟩
    rw [R2, Nat.min_eq_left (by omega)]; rfl
  case assign => 
    intro l i W K hK
    gi_wp2
    exact hK
  case body => 
    rintro l i W hi hlo ⟨hb, c0, c1, c2⟩
    have HBW := hid (HB.out.on hb)
    have HBB := hid hb
    have m0 := row_cell c0 0
    have m1 := row_cell c1 0
    have m2 := row_cell c2 0
    have f2 := frozen_of_row W (w.heap.size + 1 + 1) 0 _ _ c2
    have HC := hid c2
    have HC0 := hid c0
    have HC1 := hid c1
    simp only [List.getElem?_toArray, List.getElem?_cons_zero] at m0 m1 m2
    by_cases h : i < q
    · obtain ⟨v, hv⟩ : ∃ v, lo S i = v := ⟨_, rfl⟩
      obtain ⟨u, hu⟩ : ∃ u, pop v = u := ⟨_, rfl⟩
      obtain ⟨c, hc⟩ : ∃ c, p + cw S (min i q) = c := ⟨_, rfl⟩
      have lw := HBW.out.low i hi
      have hc2 : p + cw S (min (i + 1) q) = c + u := by
        rw [Nat.min_eq_left (by omega), cw, hv, hu]
        rw [Nat.min_eq_left (by omega)] at hc
        omega
      have cb : c ≤ 262208 := by
        rw [← hc, Nat.min_eq_left (by omega), cw_cn]
        have := cn_le S (64 * i)
        omega
      have ub : u ≤ 64 := by rw [← hu]; exact popn_le _ _
      have HC2 := hid hc2
      have v1 : v < 18446744073709551616 := by rw [← hv]; exact lo_lt _ _
      have C2 := hid (fun w => ones_any v w v1)
      rw [hv] at lw
      rw [hc] at m2 HC
      rw [hu] at C2
      have i1 : (i : Int) < (q : Int) := by omega
      have i2 : (i : Int) < 4096 := by omega
      have i3 : ((i : Int)).toNat = i := by omega
      obtain ⟨d, hd⟩ : ∃ d, c + u = d := ⟨_, rfl⟩
      rw [hd] at HC2
      have cs : (c : Int) + (u : Int) = (d : Int) := by omega
      have i0 : (0 : Int) ≤ (i : Int) := by omega
      have n3 : (1 : Nat) ≤ 5 - 1 - 1 := by omega
      have wd : IntKind.i64.wrap (d : Int) = (d : Int) := by simp [IntKind.wrap, IntKind.bits, IntKind.signed]; omega
      have FIN := hid (show KeepsOthers W (W.setCell ⟨w.heap.size + 1 + 1, 0, none⟩ (.int .i64 (IntKind.i64.wrap (d : Int)))).drew ∧ Below w.heap.size w (W.setCell ⟨w.heap.size + 1 + 1, 0, none⟩ (.int .i64 (IntKind.i64.wrap (d : Int)))).drew ∧ (W.setCell ⟨w.heap.size + 1 + 1, 0, none⟩ (.int .i64 (IntKind.i64.wrap (d : Int)))).drew.heap[w.heap.size]? = some (.cells #[.pointer (some ⟨b, 0, none⟩)] 23 (0, 0)) ∧ (W.setCell ⟨w.heap.size + 1 + 1, 0, none⟩ (.int .i64 (IntKind.i64.wrap (d : Int)))).drew.heap[w.heap.size + 1]? = some (.cells #[.int .i64 q] 3 (0, 0)) ∧ (W.setCell ⟨w.heap.size + 1 + 1, 0, none⟩ (.int .i64 (IntKind.i64.wrap (d : Int)))).drew.heap[w.heap.size + 1 + 1]? = some (.cells #[.int .i64 ((p + cw S (min (i + 1) q) : Nat) : Int)] 3 (0, 0)) by
        rw [wd, HC2.out]
        refine ⟨(KeepsOthers.setCell _ _ _).trans (KeepsOthers.drew _), (hb.setCell (p := ⟨w.heap.size + 1 + 1, 0, none⟩) (by show w.heap.size ≤ w.heap.size + 1 + 1; omega) _).drew, ?_, ?_, ?_⟩
        · rw [World.heap_drew', heap_setCell_other _ _ _ _ (by show w.heap.size ≠ w.heap.size + 1 + 1; omega)]; exact c0
        · rw [World.heap_drew', heap_setCell_other _ _ _ _ (by show w.heap.size + 1 ≠ w.heap.size + 1 + 1; omega)]; exact c1
        · rw [World.heap_drew', Go.heap_setCell_same _ _ _ _ _ _ HC.out]; rfl)
      clear wd
      have hmx : Tryd.prog.follows .mixedOrders = true := by kernel_rfl
      clear hb c0 c1 c2 hc hc2 hu hv hlo hd
      gi_wp2
      gi_region_with_o (refine ⟨trivial, ?_⟩; gi_at_call 47; refine (CallsIn.inRound l (callsIn_wide.2 (C2.out _))).mono ?_; rintro e w' ⟨rfl, rfl⟩)
      all_goals gi_wp2
      all_goals exact FIN.out
    · have hq : (q : Int) ≤ (i : Int) := by omega
      have HX := hid (show W.heap[w.heap.size + 1 + 1]? = some (.cells #[.int .i64 ((p + cw S (min 4096 q) : Nat) : Int)] 3 (0, 0)) by
        rw [c2, Nat.min_eq_right (by omega), Nat.min_eq_right (by omega)])
      clear hb c0 c1 c2
      gi_wp2
      exact ⟨KeepsOthers.refl _, rfl, HBB.out, HX.out⟩
  case done => 
    rintro D W hD ⟨hb, c0, c1, c2⟩ hK
    have m2 := row_cell c2 0
    simp only [List.getElem?_toArray, List.getElem?_cons_zero] at m2
    rw [Nat.min_comm, HE.out] at m2
    have HBB := hid hb
    clear hb c0 c1 c2
    gi_wp2
    refine ⟨by simp, .inl ⟨_, _, rfl, run_takeDeferred hK, ?_⟩⟩
    exact ⟨_, results_tmp rfl _ _ _, rfl, HBB.out.trans (belowK_b (w := w) (Nat.le_refl _) W D _ _ (by omega) hK rfl rfl)⟩
  case stop => 
    rintro D c W hD ⟨rfl, hb, c2⟩ hK
    have m2 := row_cell c2 0
    simp only [List.getElem?_toArray, List.getElem?_cons_zero] at m2
    rw [Nat.min_comm, HE.out] at m2
    have HBB := hid hb
    clear hb c2
    gi_wp2
    refine ⟨by simp, .inl ⟨_, _, rfl, run_takeDeferred hK, ?_⟩⟩
    exact ⟨_, results_tmp rfl _ _ _, rfl, HBB.out.trans (belowK_b (w := w) (Nat.le_refl _) W D _ _ (by omega) hK rfl rfl)⟩
/-- ahead of any number. -/
theorem ahead_any (b : Nat) (S : Nat → Bool) (t : Int) (w : World) (hB : Bm w b S) (hL : Laid w) (ht : t < 9223372036854775808) :
    Calls Tryd.prog 41 #[.pointer (some ⟨b, 0, none⟩), .int .i64 t] w fun e w' => e = .returned (.int .i64 (ahd S t : Nat)) ∧ Below w.heap.size w w' := by
  have h := ahead_nat b S t t.toNat w hB hL (by omega) (by omega)
  rw [show ahd S ((t.toNat : Nat) : Int) = ahd S t by unfold ahd; rw [Int.toNat_natCast]] at h
  exact h
/-- how many ticks there are. -/
def len (S : Nat → Bool) : Nat := cn S 262144
theorem len_any (b : Nat) (S : Nat → Bool) (w : World) (hB : Bm w b S) (hL : Laid w) :
    Calls Tryd.prog 23 #[.pointer (some ⟨b, 0, none⟩)] w fun e w' => e = .returned (.int .i64 (len S : Nat)) ∧ Below w.heap.size w w' := by
  have C := hid (ahead_any b S 262144 w hB hL (by omega))
  have e : ahd S 262144 = len S := rfl
  rw [e] at C
  clear hB hL e
  go_enter Tryd.func23, Tryd.ntmps23
  go_wp2_with (go_at_call 41; refine (C.out).mono ?_; rintro e w' ⟨rfl, hb⟩)
  go_ret
  exact ⟨rfl, hb⟩
end Go.Proofs.YtcbfgodknonefaaDoor
