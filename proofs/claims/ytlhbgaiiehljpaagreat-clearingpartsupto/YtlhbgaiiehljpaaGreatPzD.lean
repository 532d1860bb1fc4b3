/-
  PzD
-/
import Derived.Test.YtlhbgaiiehljpaaGreatPzB
import Derived.Test.YtlhbgaiiehljpaaGreatLwA
namespace Go.Proofs.YtlhbgaiiehljpaaGreat.Ac
open Go.RowKit Go.Deep Go.Maps MonM Go.Proofs.YtlhbgaiiehljpaaGreat
set_option linter.unusedVariables false
set_option linter.unusedSimpArgs false
set_option maxHeartbeats 8000000
set_option maxRecDepth 100000
attribute [local go_sem ↓] Go.wp_at_zero Go.wp_at_succ
attribute [-go_sem] Go.sliced
theorem Lz.on {w w' : World} {p : Option Addr} {l : List Dl} (h : Lz w p l) (hb : Below w.heap.size w w') : Lz w' p l := fun k hk => by
  obtain ⟨b, off, e, hl, h1⟩ := h k hk
  exact ⟨b, off, e, Nat.lt_of_lt_of_le hl hb.size, fun j hj => (hb.cell (p := ⟨b, off + k * 6 + j, none⟩) hl).trans (h1 j hj)⟩
theorem Lz.take {w : World} {p : Option Addr} {l : List Dl} (h : Lz w p l) (c : Nat) : Lz w p (l.take c) := fun k hk => by
  have hk2 : k < l.length := by rw [List.length_take] at hk; omega
  obtain ⟨b, off, e, hl, h1⟩ := h k hk2
  exact ⟨b, off, e, hl, fun j hj => by rw [h1 j hj, List.getElem_take]⟩
theorem Lz.drop {w : World} {b off : Nat} {l : List Dl} (h : Lz w (some ⟨b, off, none⟩) l) (c : Nat) : Lz w (some ⟨b, off + c * 6, none⟩) (l.drop c) := fun k hk => by
  have hk2 : c + k < l.length := by rw [List.length_drop] at hk; omega
  obtain ⟨b', off', e, hl, h1⟩ := h (c + k) hk2
  cases e
  exact ⟨b, off + c * 6, rfl, hl, fun j hj => by
    rw [List.getElem_drop, ← h1 j hj, show off + c * 6 + k * 6 + j = off + (c + k) * 6 + j by omega]⟩
theorem infoD40 : (Tryz.prog.info? 59).map (fun i => (i.zero, i.size, i.bytes)) = some (some (.agg #[.int .u32 0, .int .u32 0, .int .u32 0, .int .i64 0, .int .i64 0, .int .u64 0]), 6, 40) := by kernel_rfl
def dcl (l : List Dl) : List Value := l.flatMap fun d => (drow d).toList
theorem dcl_app (x y : List Dl) : dcl (x ++ y) = dcl x ++ dcl y := by simp [dcl]
theorem dcl_len (l : List Dl) : (dcl l).length = l.length * 6 := by
  induction l with
  | nil => rfl
  | cons x l ih => simp only [dcl, List.flatMap_cons, List.length_append, List.length_cons] at ih ⊢; rw [ih]; simp [drow]; omega
theorem dcl_one (l : List Dl) : ∀ u ∈ dcl l, u.oneCell' = true := fun u hu => by
  obtain ⟨d, _, h⟩ := List.mem_flatMap.1 hu
  simp [drow] at h
  rcases h with rfl | rfl | rfl | rfl | rfl | rfl <;> rfl
theorem dcl_at (l : List Dl) {k j : Nat} (hk : k < l.length) (hj : j < 6) : (dcl l)[k * 6 + j]? = (drow l[k])[j]? := by
  rw [show dcl l = l.flatMap (fun d => (drow d).toList) from rfl, flat_at 6 (fun d => (drow d).toList) (fun _ => rfl) l k j hk hj]
  simp
theorem lz_add {w : World} {ad : Addr} {l : List Dl} (h : Lz w (some ad) l) {j : Nat} {u : Value} (hu : (dcl l)[j]? = some u) : w.cell? (ad.add j) = some u := by
  have hl := (List.getElem?_eq_some_iff.1 hu).1
  rw [dcl_len] at hl
  have hk : j / 6 < l.length := by omega
  obtain ⟨b, off, e, _, h1⟩ := h (j / 6) hk
  cases e
  have h2 := h1 (j % 6) (by omega)
  have h3 := dcl_at l hk (j := j % 6) (by omega)
  rw [show j / 6 * 6 + j % 6 = j by omega] at h3
  rw [Addr.add_lit, show off + j = off + j / 6 * 6 + j % 6 by omega, h2, ← h3, hu]
theorem lz_own {base : Nat} {w : World} {q : Option Addr} {n c : Nat} {l : List Dl} (hn : l.length = n) (h : w.ownsRow base 59 6 (.slice q n c) n (dcl l)) : Lz w q l := fun k hk => by
  obtain ⟨g, rfl, _, hg⟩ := own_some h (by omega)
  refine ⟨g, 0, rfl, hg, fun j hj => ?_⟩
  have h3 := dcl_at l hk hj
  have hs : j < (drow l[k]).size := by simp [drow]; omega
  rw [Nat.zero_add, own_cells' h (u := (drow l[k])[j]) (by rw [h3]; exact Array.getElem?_eq_getElem hs)]
  exact (Array.getElem?_eq_getElem hs).symm
theorem own_empty {w : World} {g base : Nat} {e : TypeId} {size : Nat} (h : w.heap[g]? = some (.cells #[] e (0, 0))) (hb : base ≤ g) : w.ownsRow base e size (.slice (some ⟨g, 0, none⟩) 0 0) 0 [] :=
  ⟨by simp, .inr ⟨g, 0, #[], rfl, hb, h, Nat.le_refl _, Nat.zero_le _, by simp, by simp⟩⟩
theorem step_app {w : World} {ops : Array Oper} {oo : Oper} {a : Act} {K : Act → World → Prop} {Q : Exit → Act → World → Prop} {E : Prop} (hgd : oo.guard = none) (s x : Operand) (t e : TypeId) (z : Value) (size bytes : Nat)
    (ho : oo.op = .call { callee := .builtin .append, args := #[s, x], argTypes := #[t, t] }) (ht : Tryz.prog.underlying t = some (.slice e)) (hinf : (Tryz.prog.info? e).map (fun i => (i.zero, i.size, i.bytes)) = some (some z, size, bytes)) (hzs : z.cells.size = size) (hsz : 0 < size)
    (base : Nat) (v : Value) (n : Nat) (ys : List Value) (hs : a.eval s = v) (hown : w.ownsRow base e size v n ys)
    (ad : Addr) (c m : Nat) (xs : List Value) (hx : a.eval x = .slice (some ad) m c) (hln : xs.length = m * size) (hrd : ∀ j u, xs[j]? = some u → w.cell? (ad.add j) = some u) (h1 : ∀ u ∈ xs, u.oneCell' = true)
    (h63 : n + m ≤ maxLen) (hbytes : (n + m) * bytes ≤ 140737488355328) (hbase : base ≤ w.heap.size)
    (h : ∀ v' w', w'.ownsRow base e size v' (n + m) (ys ++ xs) → w.grownBy w' v.ownBlock → K (a.put oo.dst v') w') : if Region.wanted oo (yielded ops a.tmps) = true then Oper.wp Tryz.prog oo a w K Q else E := by
  have hw : Region.wanted oo (yielded ops a.tmps) = true := by simp [Region.wanted, hgd]
  rw [if_pos hw]
  obtain ⟨i0, hi, hz0, hz1, hz2⟩ := info_parts hinf
  exact wp_append_own _ s x t ho base e i0 _ size bytes ht hi hz0 hz1 hz2 hzs hsz v n ys hs hown ad m c xs hx hln hrd h1 h63 hbytes hbase (fun v' w' h2 h3 _ => h v' w' h2 h3)
/-- what Netted hands back. -/
def NeQ (base : Nat) (w' : World) (q : Option Addr) (m : Nat) (er : Int) (x : List Dl) (d : Nat) : Prop := er = nerr x ∧ (er = 0 → m ≤ 2 * x.length ∧ ∃ r : List Nt, r.length = m ∧ RelN (nst e0 x) r ∧ w'.ownsRow base 38 6 (.slice q m d) m (ncs r))
theorem netted_q {U : World} {p : Option Addr} {k m : Nat} {x : List Dl} (hU : Lz U p x) (hx : ∀ y ∈ x, y.ok) (hm : x.length = m) (hk : m ≤ 1000000000) :
    Calls Tryz.prog 6 #[.slice p m k] U fun e w' => ∃ q n d er, e = .returned (.tuple #[.slice q n d, .int .i64 er]) ∧ NeQ U.heap.size w' q n er x d ∧ Below U.heap.size U w' := by
  subst hm
  refine (netted_any hU hx hk).mono ?_
  rintro e w' ⟨⟨h1, rfl⟩ | ⟨h1, r, q, d, n, h2, rfl, h3, h4, h5⟩, hb⟩
  · exact ⟨none, 0, 0, _, rfl, ⟨rfl, fun h => absurd h h1⟩, hb⟩
  · exact ⟨q, n, d, 0, rfl, ⟨h1.symm, fun _ => ⟨h5, r, h2, h3, h4⟩⟩, hb⟩
theorem parts_some (l : List Dl) (cut : Int) (b off cap n : Nat) (w : World) (hz : Lz w (some ⟨b, off, none⟩) l) (hok : ∀ x ∈ l, x.ok) (hn : l.length = n) (hb : n ≤ 1048576) (hc : n ≤ cap) (hc2 : cap ≤ maxLen) (hi : -9223372036854775808 ≤ cut ∧ cut < 9223372036854775808) :
    Calls Tryz.prog 4 #[.slice (some ⟨b, off, none⟩) n cap, .int .i64 cut] w fun e w' => e = .returned (.bool true) ∧ Below w.heap.size w w' := by
  have CL := hid (lives_ok w)
  have HZ := hid hz
  have HOK := hid hok
  have HN := hid hn
  have HB := hid hb
  have HC := hid (And.intro hc hc2)
  have CN := hid (fun (U : World) (p : Option Addr) (k m : Nat) (x : List Dl) (hU : Lz U p x) (hx : ∀ y ∈ x, y.ok) (hm : x.length = m) (hk : m ≤ 1000000000) => show Calls Tryz.prog 6 #[.slice p m k] U fun e w' => ∃ q n d er, e = .returned (.tuple #[.slice q n d, .int .i64 er]) ∧ NeQ U.heap.size w' q n er x d ∧ Below U.heap.size U w' from netted_q hU hx hm hk)
  clear hz hok hn
  go_enter Tryz.func4, Tryz.ntmps4
  go_upto_region 3 with (go_at_call 5; with_reducible refine CL.out.mono ?_; rintro e w1 ⟨rfl, h1⟩; have B1 := hid h1; clear h1)
  have C1 := hid (CN.out w1 (some ⟨b, off, none⟩) cap n l (HZ.out.on B1.out) HOK.out HN.out (by omega))
  rename_i Ka ha Kb hb2
  have KEY : ∀ (v20 v21 v22 v23 v24 v25 v26 v27 : Value) (c : Nat), c ≤ n → Ka { tmps := #[.slice (some ⟨b, off, none⟩) n cap, .int .i64 (c : Nat), undef, undef, .bool false, undef, undef, undef, undef, undef, undef, undef, undef, undef, undef, undef, undef, undef, .bool true, .bool false, v20, v21, v22, v23, v24, v25, v26, v27, undef, undef, undef, undef, undef, undef, undef, undef, undef, undef, undef, undef, undef, undef, undef, undef, undef, undef, undef, undef, undef, undef, undef, undef, undef, undef, undef, undef, undef, undef, undef, undef, undef, undef, undef, undef, undef, undef, undef, undef, undef, undef, undef, undef, undef, undef, undef, undef, undef, undef, undef, undef, undef, undef, undef, undef, undef, undef, undef, undef, undef, undef, undef, undef, undef, undef, undef, undef, undef, undef, undef, undef, undef, undef, undef, undef, undef, undef, undef, undef, undef, undef, undef, undef, undef, undef, undef, undef, undef, undef, undef, undef, undef, undef, undef, undef, undef, undef, undef, undef, undef, undef, undef, undef, undef, undef, undef, undef, undef, undef, undef, undef, undef, undef, undef, undef, undef, undef, undef, undef, undef, undef, undef, undef, undef, undef, undef, undef, undef, undef, undef, undef, undef, undef, undef, undef, undef, undef, undef, undef, undef, undef, undef, undef, undef, undef, undef, undef, undef, undef, undef, undef, undef, undef, undef, undef, undef, undef, undef, undef, undef, undef, undef, undef, undef, undef, undef, undef, undef, undef, undef, undef, undef, undef, undef, undef, undef, undef, undef, undef, undef, undef, undef], defers := [] } w1 := by
    intro v20 v21 v22 v23 v24 v25 v26 v27 c hcn
    have hcc : c ≤ cap := by omega
    refine ha _ _ ?_
    clear ha hb2 hi CL
    go_upto_region 5 with fail
    obtain ⟨o2, ho2⟩ : ∃ o2, o2 = if cap = c then off else off + c * 6 := ⟨_, rfl⟩
    have SLH : sliced (some ⟨b, off, none⟩) 0 c cap 6 = .slice (some ⟨b, off, none⟩) c cap := by
      unfold sliced
      split
      · simp
      · simp [Addr.add_lit]
    have SLD : sliced (some ⟨b, off, none⟩) c n cap 6 = .slice (some ⟨b, o2, none⟩) (n - c) (cap - c) := by
      unfold sliced
      rw [ho2]
      split
      · rfl
      · simp [Addr.add_lit]
    have HD2 := hid (show ∀ U, Lz U (some ⟨b, off, none⟩) l → Lz U (some ⟨b, o2, none⟩) (l.drop c) from fun U hU => by
      rw [ho2]
      split
      · intro k hk
        rw [List.length_drop, HN.out] at hk
        omega
      · exact hU.drop c)
    clear ho2
    have HSP := hid (show l.take c ++ l.drop c = l from List.take_append_drop ..)
    go_upto_region 6 with (go_at_call 6; with_reducible refine C1.out.mono ?_; rintro e w2 ⟨q2, n2, d2, er2, rfl, h1, h2⟩; have P2 := hid h1; have B2 := hid h2; clear h1 h2)
    have C2 := hid (CN.out w2 (some ⟨b, off, none⟩) cap c (l.take c) (((HZ.out.on B1.out).on B2.out).take c) (fun y hy => HOK.out y (List.mem_of_mem_take hy)) (by rw [List.length_take, HN.out]; omega) (by omega))
    go_upto_region 7 with (go_at_call 6; with_reducible refine C2.out.mono ?_; rintro e w3 ⟨q3, n3, d3, er3, rfl, h1, h2⟩; have P3 := hid h1; have B3 := hid h2; clear h1 h2)
    have HZ4 := hid (((HZ.out.on B1.out).on B2.out).on B3.out)
    have C3 := hid (CN.out w3 (some ⟨b, o2, none⟩) (cap - c) (n - c) (l.drop c) (HD2.out w3 HZ4.out) (fun y hy => HOK.out y (List.mem_of_mem_drop hy)) (by rw [List.length_drop, HN.out]) (by omega))
    go_upto_region 8 with (go_at_call 6; with_reducible refine C3.out.mono ?_; rintro e w4 ⟨q4, n4, d4, er4, rfl, h1, h2⟩; have P4 := hid h1; have B4 := hid h2; clear h1 h2)
    have HZ5 := hid (HZ4.out.on B4.out)
    have HLD := hid (show (dcl (l.drop c)).length = (n - c) * 6 from by rw [dcl_len, List.length_drop, HN.out])
    have HLT := hid (show (dcl (l.take c)).length = c * 6 from by rw [dcl_len, List.length_take, HN.out, Nat.min_eq_left hcn])
    have BRF := hid (Below.refl w4.heap.size w4)
    clear C1 C2 C3
    obtain ⟨V1, hV1⟩ : ∃ U, w4.drew = U := ⟨_, rfl⟩
    have bV1 := hid (show Below w4.heap.size w4 V1 from by rw [← hV1]; exact bdrew1 _)
    have DV1 := hid (btr BRF.out bV1.out)
    refine wp_region_held_drew (S := (fun _ => True)) (by kernel_rfl) ?_ (fun hHeld => ?_)
    · exact trivial
    rw [hV1]
    clear hV1
    refine' wpAnyH_take (i := 1) (oi := _) (v := _) rfl (by kernel_rfl) (by kernel_rfl) (by kernel_rfl) (fun _ _ _ h => h) (Or.inl ⟨by kernel_rfl, ?_⟩) (by assumption) ?_
    rotate_left
    · (intro w hSw; (try dsimp only at hSw); go_simp; try (with_reducible rfl))
    try simp only [List.getElem_toArray, List.getElem_cons_succ, List.getElem_cons_zero, Act.put, List.setIfInBounds_toArray, List.set_cons_zero, List.set_cons_succ]
    refine' wpAnyH_take (i := 2) (oi := _) (v := _) rfl (by kernel_rfl) (by kernel_rfl) (by kernel_rfl) (fun _ _ _ h => h) (Or.inl ⟨by kernel_rfl, ?_⟩) (by assumption) ?_
    rotate_left
    · (intro w hSw; (try dsimp only at hSw); go_simp; try (with_reducible rfl))
    try simp only [List.getElem_toArray, List.getElem_cons_succ, List.getElem_cons_zero, Act.put, List.setIfInBounds_toArray, List.set_cons_zero, List.set_cons_succ]
    refine' wpAnyH_take (i := 3) (oi := _) (v := _) rfl (by kernel_rfl) (by kernel_rfl) (by kernel_rfl) (fun _ _ _ h => h) (Or.inl ⟨by kernel_rfl, ?_⟩) (by assumption) ?_
    rotate_left
    · (intro w hSw; (try dsimp only at hSw); go_simp; try (with_reducible rfl))
    try simp only [List.getElem_toArray, List.getElem_cons_succ, List.getElem_cons_zero, Act.put, List.setIfInBounds_toArray, List.set_cons_zero, List.set_cons_succ]
    refine' wpAnyH_take (i := 5) (oi := _) (v := _) rfl (by kernel_rfl) (by kernel_rfl) (by kernel_rfl) (fun _ _ _ h => h) (Or.inl ⟨by kernel_rfl, ?_⟩) (by assumption) ?_
    rotate_left
    · (intro w hSw; (try dsimp only at hSw); go_simp; try (with_reducible rfl))
    try simp only [List.getElem_toArray, List.getElem_cons_succ, List.getElem_cons_zero, Act.put, List.setIfInBounds_toArray, List.set_cons_zero, List.set_cons_succ]
    refine' wpAnyH_take (i := 6) (oi := _) (v := _) rfl (by kernel_rfl) (by kernel_rfl) (by kernel_rfl) (fun _ _ _ h => h) (Or.inl ⟨by kernel_rfl, ?_⟩) (by assumption) ?_
    rotate_left
    · (intro w hSw; (try dsimp only at hSw); go_simp; try (with_reducible rfl))
    try simp only [List.getElem_toArray, List.getElem_cons_succ, List.getElem_cons_zero, Act.put, List.setIfInBounds_toArray, List.set_cons_zero, List.set_cons_succ]
    refine' wpAnyH_take (i := 7) (oi := _) (v := _) rfl (by kernel_rfl) (by kernel_rfl) (by kernel_rfl) (fun _ _ _ h => h) (Or.inl ⟨by kernel_rfl, ?_⟩) (by assumption) ?_
    rotate_left
    · (intro w hSw; (try dsimp only at hSw); go_simp; try (with_reducible rfl))
    try simp only [List.getElem_toArray, List.getElem_cons_succ, List.getElem_cons_zero, Act.put, List.setIfInBounds_toArray, List.set_cons_zero, List.set_cons_succ]
    refine wpAnyH_ready (rs := [0]) (by kernel_rfl) (by simp) ?_
    refine (AllReadyH.cons (o := _) rfl (fun K hK => ?_) AllReadyH.nil)
    go_simp
    obtain ⟨X2, hX2⟩ : ∃ X, V1.alloc (.cells #[] 59) = X := ⟨_, rfl⟩
    have bX2 := hid (show Below V1.heap.size V1 X2 from by rw [← hX2]; exact ball _ _)
    have zX2 : X2.heap[V1.heap.size]? = some (.cells #[] 59 (0, 0)) := by rw [← hX2]; exact World.alloc_heap_new _ _
    have DX2 := hid (btr DV1.out bX2.out)
    obtain ⟨g3, hg3⟩ : ∃ g, V1.heap.size = g := ⟨_, rfl⟩
    have yg3 := hid (Nat.le_trans DV1.out.size (Nat.le_refl _))
    rw [hg3] at zX2 yg3
    have ZX2 := hid zX2
    rw [hX2, hg3]
    clear hX2 hg3 zX2
    refine hK.out _ _ ?_ (fun hHeld => ?_)
    · exact trivial
    clear hK K
    try simp only [List.getElem_toArray, List.getElem_cons_succ, List.getElem_cons_zero, Act.put, List.setIfInBounds_toArray, List.set_cons_zero, List.set_cons_succ]
    refine wpAnyH_ready (rs := [4]) (by kernel_rfl) (by simp) ?_
    refine (AllReadyH.cons (o := _) rfl (fun K hK => ?_) AllReadyH.nil)
    refine step_app (by rfl) (.tmp 47) (.tmp 50) 22 59 _ 6 40 (by rfl) Tryz.underlying22 infoD40 rfl (by decide) w4.heap.size _ 0 [] (by rfl) (own_empty ZX2.out yg3.out) ⟨b, o2, none⟩ (cap - c) (n - c) (dcl (l.drop c)) (by rfl) HLD.out (fun j u hu => lz_add (HD2.out _ (HZ5.out.on DX2.out)) hu) (dcl_one _) (by unfold maxLen; omega) (by omega) DX2.out.size (fun v5 w5 hown hgrow => ?_)
    have hown5 : w5.ownsRow w4.heap.size 59 6 v5 (n - c) (dcl (l.drop c)) := by simpa using hown
    obtain ⟨q5, d5, rfl⟩ := own_form hown5
    have O5 := hid hown5
    have B5 := hid (show Below w4.heap.size w4 w5 from DX2.out.grown hgrow DX2.out.size (fun j hj => by cases hj; exact yg3.out))
    clear hown hgrow hown5
    refine hK.out _ _ ?_ (fun hHeld => ?_)
    · exact trivial
    clear hK K
    try simp only [List.getElem_toArray, List.getElem_cons_succ, List.getElem_cons_zero, Act.put, List.setIfInBounds_toArray, List.set_cons_zero, List.set_cons_succ]
    refine wpAnyH_ready (rs := [8]) (by kernel_rfl) (by simp) ?_
    refine (AllReadyH.cons (o := _) rfl (fun K hK => ?_) AllReadyH.nil)
    refine step_app (by rfl) (.tmp 51) (.tmp 54) 22 59 _ 6 40 (by rfl) Tryz.underlying22 infoD40 rfl (by decide) w4.heap.size _ (n - c) _ (by rfl) O5.out ⟨b, off, none⟩ cap c (dcl (l.take c)) (by rfl) HLT.out (fun j u hu => lz_add ((HZ5.out.on B5.out).take c) hu) (dcl_one _) (by unfold maxLen; omega) (by omega) B5.out.size (fun v6 w6 hown hgrow => ?_)
    have hown6 : w6.ownsRow w4.heap.size 59 6 v6 n (dcl (l.drop c ++ l.take c)) := by rw [dcl_app]; rw [show n - c + c = n by omega] at hown; exact hown
    obtain ⟨q6, d6, rfl⟩ := own_form hown6
    have O6 := hid hown6
    have B6 := hid (show Below w4.heap.size w4 w6 from B5.out.grown hgrow B5.out.size (fun j hj => (own_lo O5.out hj).1))
    clear hown hgrow hown6
    refine hK.out _ _ ?_ (fun hHeld => ?_)
    · exact trivial
    clear hK K
    try simp only [List.getElem_toArray, List.getElem_cons_succ, List.getElem_cons_zero, Act.put, List.setIfInBounds_toArray, List.set_cons_zero, List.set_cons_succ]
    refine' wpAnyH_take (i := 9) (oi := _) (v := _) rfl (by kernel_rfl) (by kernel_rfl) (by kernel_rfl) (fun _ _ _ h => h) (Or.inl ⟨by kernel_rfl, ?_⟩) (by assumption) ?_
    rotate_left
    · (intro w hSw; (try dsimp only at hSw); go_simp; try (with_reducible rfl))
    try simp only [List.getElem_toArray, List.getElem_cons_succ, List.getElem_cons_zero, Act.put, List.setIfInBounds_toArray, List.set_cons_zero, List.set_cons_succ]
    refine wpAnyH_done (by kernel_rfl) ?_ _
    go_upto_region 9 with fail
    have C9 := hid (CN.out w6 q6 d6 n (l.drop c ++ l.take c) (lz_own (by rw [List.length_append, List.length_drop, List.length_take, HN.out]; omega) O6.out) (fun y hy => by
      rcases List.mem_append.1 hy with h | h
      · exact HOK.out y (List.mem_of_mem_drop h)
      · exact HOK.out y (List.mem_of_mem_take h)) (by rw [List.length_append, List.length_drop, List.length_take, HN.out]; omega) (by omega))
    go_upto_region 10 with (go_at_call 6; with_reducible refine C9.out.mono ?_; rintro e w7 ⟨q7, n7, d7, er7, rfl, h1, h2⟩; have P7 := hid h1; have B7 := hid h2; clear h1 h2)
    have BALL := hid (btr (btr (btr (btr (btr B1.out B2.out) B3.out) B4.out) B6.out) B7.out)
    have N1 := hid (nerr_app (l.take c) (l.drop c))
    have N2 := hid (nerr_app (l.drop c) (l.take c))
    rw [HSP.out] at N1
    rw [← P2.out.1, ← P3.out.1, ← P4.out.1] at N1
    rw [← P7.out.1, ← P3.out.1, ← P4.out.1] at N2
    by_cases z3 : er3 = 0
    · by_cases z4 : er4 = 0
      · subst z3 z4
        have z2 : er2 = 0 := by rw [N1.out, if_pos rfl]
        have z7 : er7 = 0 := by rw [N2.out, if_pos rfl]
        subst z2 z7
        have ZT := hid (show nerr (l.take c) = 0 from P3.out.1.symm)
        have ZD := hid (show nerr (l.drop c) = 0 from P4.out.1.symm)
        obtain ⟨m2, r2, L2', R2', O2'⟩ := P2.out.2 rfl
        obtain ⟨m3, r3, L3', R3', O3'⟩ := P3.out.2 rfl
        obtain ⟨m4, r4, L4', R4', O4'⟩ := P4.out.2 rfl
        obtain ⟨m7, r7, L7', R7', O7'⟩ := P7.out.2 rfl
        have eT := nst_turn ZT.out ZD.out (by rw [HSP.out, HN.out]; omega)
        rw [HSP.out] at eT
        rw [eT] at R7'
        obtain rfl : r2 = r7 := R2'.uniq R7'
        obtain rfl : n2 = n7 := by rw [← L2', ← L7']
        rw [HN.out] at m2
        rw [List.length_take, HN.out] at m3
        rw [List.length_drop, HN.out] at m4
        have L2 := hid L2'
        have L3 := hid L3'
        have L4 := hid L4'
        have M2 := hid (show n2 ≤ 2000000000 from by omega)
        have M3 := hid (show n3 ≤ 2000000000 from by omega)
        have M4 := hid (show n4 ≤ 2000000000 from by omega)
        have REL2 := hid R2'
        have REL3 := hid R3'
        have REL4 := hid R4'
        have O7 := hid O7'
        have O2 := hid (own_on (own_on (own_on (own_on O2' B3.out) B4.out) B6.out) B7.out)
        have O3 := hid (own_on (own_on (own_on O3' B4.out) B6.out) B7.out)
        have O4 := hid (own_on (own_on O4' B6.out) B7.out)
        clear L2' L3' L4' L7' R2' R3' R4' R7' O2' O3' O4' O7' eT m2 m3 m4 m7
        clear C9 HZ HZ4 HZ5 HD2 HLD HLT O5 O6 SLH SLD BRF
        go_upto_region 15 with fail
        have BW0 := hid (Below.refl w7.heap.size w7)
        go_loopw [14] (fun iv wr => ∃ i : Nat, i ≤ n2 ∧ iv = .int .i64 i ∧ Hid (Below w7.heap.size w7 wr)) (fun iv _ => n2 - (intOf iv).toNat)
        case atStart => exact ⟨0, Nat.zero_le _, rfl, BW0⟩
        case round =>
          obtain ⟨i, hin, rfl, BW⟩ := hrel
          clear BW0
          by_cases hlt : i < n2
          · have hi2 : i < r2.length := by rw [L2.out]; exact hlt
            have O2w := hid (own_on O2.out BW.out)
            have O7w := hid (own_on O7.out BW.out)
            have O3w := hid (own_on O3.out BW.out)
            have O4w := hid (own_on O4.out BW.out)
            obtain ⟨g2, rfl⟩ : ∃ g, q2 = some ⟨g, 0, none⟩ := by
              obtain ⟨g, e, _⟩ := own_some O2w.out (by omega)
              exact ⟨g, e⟩
            obtain ⟨g7, rfl⟩ : ∃ g, q7 = some ⟨g, 0, none⟩ := by
              obtain ⟨g, e, _⟩ := own_some O7w.out (by omega)
              exact ⟨g, e⟩
            have MEM := hid (List.getElem_mem hi2)
            have A0 := hid (fun (U : World) (hU : Below wr.heap.size wr U) (j : Nat) (hj : j < 6) (u : Value) (e : (nce r2[i])[j]? = some u) => nets_cell (own_on O2w.out hU) hi2 hj e)
            have A7 := hid (fun (U : World) (hU : Below wr.heap.size wr U) (j : Nat) (hj : j < 6) (u : Value) (e : (nce r2[i])[j]? = some u) => nets_cell (own_on O7w.out hU) hi2 hj e)
            obtain ⟨x, hxx⟩ : ∃ x, r2[i] = x := ⟨_, rfl⟩
            rw [hxx] at MEM A0 A7
            obtain ⟨xm, xi, xb, xs, xa⟩ := x
            have OKX := hid (REL2.out.ok _ MEM.out)
            have G2 := hid (show gN (nst e0 l) (xm, xi) = ⟨xb, xs, xa⟩ from reln_gN REL2.out MEM.out)
            have CUT := hid (nst_cut ZT.out ZD.out (by rw [HSP.out, HN.out]; omega) (xm, xi))
            rw [HSP.out, G2.out] at CUT
            have AT := hid (nst_amt ZT.out (by rw [List.length_take, HN.out]; omega) (xm, xi))
            have AD := hid (nst_amt ZD.out (by rw [List.length_drop, HN.out]; omega) (xm, xi))
            have CX := hid (fun (U : World) (hU : Below wr.heap.size wr U) => net_any REL3.out (m := xm) (i := xi) OKX.out.1 OKX.out.2.1 w2.heap.size q3 d3 n3 U L3.out M3.out (own_on O3w.out hU))
            have CY := hid (fun (U : World) (hU : Below wr.heap.size wr U) => net_any REL4.out (m := xm) (i := xi) OKX.out.1 OKX.out.2.1 w3.heap.size q4 d4 n4 U L4.out M4.out (own_on O4w.out hU))
            obtain ⟨z3, hz3⟩ : ∃ z, gN (nst e0 (l.take c)) (xm, xi) = z := ⟨_, rfl⟩
            obtain ⟨z4, hz4⟩ : ∃ z, gN (nst e0 (l.drop c)) (xm, xi) = z := ⟨_, rfl⟩
            rw [hz3] at CUT AT CX
            rw [hz4] at CUT AD CY
            obtain ⟨b3, s3, a3⟩ := z3
            obtain ⟨b4, s4, a4⟩ := z4
            dsimp only at CUT AT AD CX CY
            obtain ⟨U1, U2, U3⟩ := CUT.out
            have e1 : IntKind.u64.wrap (b3 + b4) = xb := by rw [IntKind.wrap_u64]; exact U1.symm
            have e2 : IntKind.u64.wrap (s3 + s4) = xs := by rw [IntKind.wrap_u64]; exact U2.symm
            have CS := hid (fun U => lsum_any a3 a4 U (show Amt a3 from by have := AT.out; unfold Amt; omega) (show Amt a4 from by have := AD.out; unfold Amt; omega))
            have em : maddV a3 a4 = xa := by rw [madd_in (by have := AT.out; have := AD.out; omega)]; exact U3.symm
            rw [em] at CS
            have CC := hid (fun U => mcompare_any xa xa U OKX.out.2.2.1 OKX.out.2.2.1)
            have ec : cmp3 xa xa = 0 := by simp [cmp3]
            rw [ec] at CC
            have HA0 := hid (fun U hU => A0.out U hU 0 (by decide) _ rfl)
            have HA1 := hid (fun U hU => A0.out U hU 1 (by decide) _ rfl)
            have HA2 := hid (fun U hU => A0.out U hU 2 (by decide) _ rfl)
            have HA3 := hid (fun U hU => A0.out U hU 3 (by decide) _ rfl)
            have HA4 := hid (fun U hU => A0.out U hU 4 (by decide) _ rfl)
            have HA5 := hid (fun U hU => A0.out U hU 5 (by decide) _ rfl)
            have HB0 := hid (fun U hU => A7.out U hU 0 (by decide) _ rfl)
            have HB1 := hid (fun U hU => A7.out U hU 1 (by decide) _ rfl)
            have HB2 := hid (fun U hU => A7.out U hU 2 (by decide) _ rfl)
            have HB3 := hid (fun U hU => A7.out U hU 3 (by decide) _ rfl)
            have HB4 := hid (fun U hU => A7.out U hU 4 (by decide) _ rfl)
            have HB5 := hid (fun U hU => A7.out U hU 5 (by decide) _ rfl)
            unfold mv at CS CC
            dsimp only at HA0 HA1 HA2 HA3 HA4 HA5 HB0 HB1 HB2 HB3 HB4 HB5
            obtain ⟨hx, ehx⟩ : ∃ z, hiW xa = z := ⟨_, rfl⟩
            obtain ⟨lx, elx⟩ : ∃ z, loW xa = z := ⟨_, rfl⟩
            obtain ⟨h3, eh3⟩ : ∃ z, hiW a3 = z := ⟨_, rfl⟩
            obtain ⟨l3, el3⟩ : ∃ z, loW a3 = z := ⟨_, rfl⟩
            obtain ⟨h4, eh4⟩ : ∃ z, hiW a4 = z := ⟨_, rfl⟩
            obtain ⟨l4, el4⟩ : ∃ z, loW a4 = z := ⟨_, rfl⟩
            rw [ehx, elx, eh3, el3, eh4, el4] at CS
            rw [ehx, elx] at CC
            rw [ehx] at HA4 HB4
            rw [elx] at HA5 HB5
            rw [eh3, el3] at CX
            rw [eh4, el4] at CY
            have i0 : (0 : Int) ≤ (i : Int) := by omega
            have i1 : (i : Int) < (n2 : Int) := by omega
            have n2b := M2.out
            have wi : IntKind.i64.wrap ((i : Int) + 1) = ((i + 1 : Nat) : Int) := by rw [IntKind.wrap_i64]; omega
            have HLT := hid hlt
            have BR := hid (Below.refl wr.heap.size wr)
            clear hxx hz3 hz4 U1 U2 U3 em ec ehx elx eh3 el3 eh4 el4 hi2
            go_upto_region 17 with fail
            refine reg_cut (X := Nat × Int × Int) (fun a x => (((((((((((((a.put (some 96) (.slice q3 n3 d3)).put (some 97) (.slice (some ⟨g2, 0, none⟩) n2 d2)).put (some 98) (.int .i64 i)).put (some 99) (.pointer (some ⟨g2, i * 6, none⟩))).put (some 100) (.pointer (some ⟨g2, i * 6, none⟩))).put (some 101) (.int .u32 xm)).put (some 102) (.slice (some ⟨g2, 0, none⟩) n2 d2)).put (some 103) (.int .i64 i)).put (some 104) (.pointer (some ⟨g2, i * 6, none⟩))).put (some 105) (.pointer (some ⟨g2, i * 6 + 1, none⟩))).put (some 106) (.int .u32 xi)).put (some 107) (.agg #[.int .u32 x.2.1, .int .u32 x.2.2, .int .u64 b3, .int .u64 s3, .int .u64 h3, .int .u64 l3])).put (some 15) (.pointer (some ⟨x.1, 0, none⟩)))) (fun x V => Hid (Below wr.heap.size wr V) ∧ Hid (V.heap[x.1]? = some (.cells #[.int .u32 x.2.1, .int .u32 x.2.2, .int .u64 b3, .int .u64 s3, .int .u64 h3, .int .u64 l3] 38 (0, 0))) ∧ Hid (wr.heap.size ≤ x.1)) ?_ ?_
            · obtain ⟨V4, hV4⟩ : ∃ U, wr.drew = U := ⟨_, rfl⟩
              have bV4 := hid (show Below wr.heap.size wr V4 from by rw [← hV4]; exact bdrew1 _)
              have DV4 := hid (btr BR.out bV4.out)
              refine wp_region_held_drew (S := (fun U => U.cell? ⟨g2, i * 6, none⟩ = some (.int .u32 xm) ∧ U.cell? ⟨g2, i * 6 + 1, none⟩ = some (.int .u32 xi))) (by kernel_rfl) ?_ (fun hHeld => ?_)
              · (try dsimp only); rw [hV4]; exact ⟨HA0.out _ DV4.out, HA1.out _ DV4.out⟩
              rw [hV4] at hHeld ⊢
              clear hV4
              refine' wpAnyH_take (i := 0) (oi := _) (v := _) rfl (by kernel_rfl) (by kernel_rfl) (by kernel_rfl) (fun _ _ _ h => h) (Or.inl ⟨by kernel_rfl, ?_⟩) (by assumption) ?_
              rotate_left
              · (intro w hSw; (try dsimp only at hSw); go_simp; try (with_reducible rfl))
              try simp only [List.getElem_toArray, List.getElem_cons_succ, List.getElem_cons_zero, Act.put, List.setIfInBounds_toArray, List.set_cons_zero, List.set_cons_succ]
              refine' wpAnyH_take (i := 1) (oi := _) (v := _) rfl (by kernel_rfl) (by kernel_rfl) (by kernel_rfl) (fun _ _ _ h => h) (Or.inl ⟨by kernel_rfl, ?_⟩) (by assumption) ?_
              rotate_left
              · (intro w hSw; (try dsimp only at hSw); go_simp; try (with_reducible rfl))
              try simp only [List.getElem_toArray, List.getElem_cons_succ, List.getElem_cons_zero, Act.put, List.setIfInBounds_toArray, List.set_cons_zero, List.set_cons_succ]
              refine' wpAnyH_take (i := 2) (oi := _) (v := _) rfl (by kernel_rfl) (by kernel_rfl) (by kernel_rfl) (fun _ _ _ h => h) (Or.inl ⟨by kernel_rfl, ?_⟩) (by assumption) ?_
              rotate_left
              · (intro w hSw; (try dsimp only at hSw); go_simp; try (with_reducible rfl))
              try simp only [List.getElem_toArray, List.getElem_cons_succ, List.getElem_cons_zero, Act.put, List.setIfInBounds_toArray, List.set_cons_zero, List.set_cons_succ]
              refine' wpAnyH_take (i := 3) (oi := _) (v := _) rfl (by kernel_rfl) (by kernel_rfl) (by kernel_rfl) (fun _ _ _ h => h) (Or.inl ⟨by kernel_rfl, ?_⟩) (by assumption) ?_
              rotate_left
              · (intro w hSw; (try dsimp only at hSw); go_simp; try (with_reducible rfl))
              try simp only [List.getElem_toArray, List.getElem_cons_succ, List.getElem_cons_zero, Act.put, List.setIfInBounds_toArray, List.set_cons_zero, List.set_cons_succ]
              refine' wpAnyH_take (i := 4) (oi := _) (v := _) rfl (by kernel_rfl) (by kernel_rfl) (by kernel_rfl) (fun _ _ _ h => h) (Or.inl ⟨by kernel_rfl, ?_⟩) (by assumption) ?_
              rotate_left
              · (intro w hSw; (try dsimp only at hSw); go_simp; try (with_reducible rfl))
              try simp only [List.getElem_toArray, List.getElem_cons_succ, List.getElem_cons_zero, Act.put, List.setIfInBounds_toArray, List.set_cons_zero, List.set_cons_succ]
              refine' wpAnyH_take (i := 5) (oi := _) (v := _) rfl (by kernel_rfl) (by kernel_rfl) (by kernel_rfl) (fun _ _ _ h => h) (Or.inl ⟨by kernel_rfl, ?_⟩) (by assumption) ?_
              rotate_left
              · (intro w hSw; (try dsimp only at hSw); go_simp; try (with_reducible rfl))
              try simp only [List.getElem_toArray, List.getElem_cons_succ, List.getElem_cons_zero, Act.put, List.setIfInBounds_toArray, List.set_cons_zero, List.set_cons_succ]
              refine' wpAnyH_take (i := 6) (oi := _) (v := _) rfl (by kernel_rfl) (by kernel_rfl) (by kernel_rfl) (fun _ _ _ h => h) (Or.inl ⟨by kernel_rfl, ?_⟩) (by assumption) ?_
              rotate_left
              · (intro w hSw; (try dsimp only at hSw); go_simp; try (with_reducible rfl))
              try simp only [List.getElem_toArray, List.getElem_cons_succ, List.getElem_cons_zero, Act.put, List.setIfInBounds_toArray, List.set_cons_zero, List.set_cons_succ]
              refine' wpAnyH_take (i := 7) (oi := _) (v := _) rfl (by kernel_rfl) (by kernel_rfl) (by kernel_rfl) (fun _ _ _ h => h) (Or.inl ⟨by kernel_rfl, ?_⟩) (by assumption) ?_
              rotate_left
              · (intro w hSw; (try dsimp only at hSw); go_simp; try (with_reducible rfl))
              try simp only [List.getElem_toArray, List.getElem_cons_succ, List.getElem_cons_zero, Act.put, List.setIfInBounds_toArray, List.set_cons_zero, List.set_cons_succ]
              refine' wpAnyH_take (i := 8) (oi := _) (v := _) rfl (by kernel_rfl) (by kernel_rfl) (by kernel_rfl) (fun _ _ _ h => h) (Or.inl ⟨by kernel_rfl, ?_⟩) (by assumption) ?_
              rotate_left
              · (intro w hSw; (try dsimp only at hSw); go_simp; try (with_reducible rfl))
              try simp only [List.getElem_toArray, List.getElem_cons_succ, List.getElem_cons_zero, Act.put, List.setIfInBounds_toArray, List.set_cons_zero, List.set_cons_succ]
              refine' wpAnyH_take (i := 9) (oi := _) (v := _) rfl (by kernel_rfl) (by kernel_rfl) (by kernel_rfl) (fun _ _ _ h => h) (Or.inl ⟨by kernel_rfl, ?_⟩) (by assumption) ?_
              rotate_left
              · (intro w hSw; (try dsimp only at hSw); go_simp; try (with_reducible rfl))
              try simp only [List.getElem_toArray, List.getElem_cons_succ, List.getElem_cons_zero, Act.put, List.setIfInBounds_toArray, List.set_cons_zero, List.set_cons_succ]
              refine' wpAnyH_take (i := 10) (oi := _) (v := _) rfl (by kernel_rfl) (by kernel_rfl) (by kernel_rfl) (fun _ _ _ h => h) (Or.inl ⟨by kernel_rfl, ?_⟩) (by assumption) ?_
              rotate_left
              · (intro w hSw; (try dsimp only at hSw); go_simp; try (with_reducible rfl))
              try simp only [List.getElem_toArray, List.getElem_cons_succ, List.getElem_cons_zero, Act.put, List.setIfInBounds_toArray, List.set_cons_zero, List.set_cons_succ]
              refine wpAnyH_ready (rs := [11, 12]) (by kernel_rfl) (by simp) ?_
              refine (AllReadyH.cons (o := _) rfl (fun K hK => ?_) (AllReadyH.cons (o := _) rfl (fun K hK => ?_) AllReadyH.nil))
              · go_simp
                go_at_call 12
                with_reducible refine (CX.out V4 DV4.out).mono ?_
                rintro e X5 ⟨⟨m5, i5, rfl⟩, cX5⟩
                have bX5 := hid cX5
                clear cX5
                have DX5 := hid (btr DV4.out bX5.out)
                (try go_wp2_with fail)
                refine hK.out _ _ ?_ (fun hHeld => ?_)
                · (try dsimp only); exact ⟨HA0.out _ DX5.out, HA1.out _ DX5.out⟩
                clear hK K
                try simp only [List.getElem_toArray, List.getElem_cons_succ, List.getElem_cons_zero, Act.put, List.setIfInBounds_toArray, List.set_cons_zero, List.set_cons_succ]
                refine wpAnyH_ready (rs := [12]) (by kernel_rfl) (by simp) ?_
                refine (AllReadyH.cons (o := _) rfl (fun K hK => ?_) AllReadyH.nil)
                go_simp
                obtain ⟨X6, hX6⟩ : ∃ X, X5.alloc (.cells #[.int .u32 0, .int .u32 0, .int .u64 0, .int .u64 0, .int .u64 0, .int .u64 0] 38) = X := ⟨_, rfl⟩
                have bX6 := hid (show Below X5.heap.size X5 X6 from by rw [← hX6]; exact ball _ _)
                have zX6 : X6.heap[X5.heap.size]? = some (.cells #[.int .u32 0, .int .u32 0, .int .u64 0, .int .u64 0, .int .u64 0, .int .u64 0] 38 (0, 0)) := by rw [← hX6]; exact World.alloc_heap_new _ _
                have DX6 := hid (btr DX5.out bX6.out)
                obtain ⟨g7, hg7⟩ : ∃ g, X5.heap.size = g := ⟨_, rfl⟩
                have yg7 := hid (Nat.le_trans DX5.out.size (Nat.le_refl _))
                rw [hg7] at zX6 yg7
                have ZX6 := hid zX6
                rw [hX6, hg7]
                clear hX6 hg7 zX6
                refine hK.out _ _ ?_ (fun hHeld => ?_)
                · (try dsimp only); exact ⟨HA0.out _ DX6.out, HA1.out _ DX6.out⟩
                clear hK K
                try simp only [List.getElem_toArray, List.getElem_cons_succ, List.getElem_cons_zero, Act.put, List.setIfInBounds_toArray, List.set_cons_zero, List.set_cons_succ]
                refine wpAnyH_ready (rs := [13]) (by kernel_rfl) (by simp) ?_
                refine (AllReadyH.cons (o := _) rfl (fun K hK => ?_) AllReadyH.nil)
                refine step_store_row (by rfl) 38 (.tmp 15) (.tmp 107) (by rfl) g7 #[.int .u32 m5, .int .u32 i5, .int .u64 b3, .int .u64 s3, .int .u64 h3, .int .u64 l3] (by rfl) (by rfl) 38 _ ZX6.out infoN6 (by rfl) (by simp [Value.oneCell']) ?_
                have AY8 := hid (setRow_heap X6 g7 _ #[.int .u32 m5, .int .u32 i5, .int .u64 b3, .int .u64 s3, .int .u64 h3, .int .u64 l3] 38 (0, 0) ZX6.out)
                have kY8 := hid (setRow_kp X6 g7 #[.int .u32 m5, .int .u32 i5, .int .u64 b3, .int .u64 s3, .int .u64 h3, .int .u64 l3])
                have DY8 := hid (show Below _ _ _ from DX6.out.trans (kY8.out.below DX6.out.size (fun g hg e => by have := yg7.out; omega)))
                obtain ⟨Y8, hY8⟩ : ∃ Y, X6.setRow g7 #[.int .u32 m5, .int .u32 i5, .int .u64 b3, .int .u64 s3, .int .u64 h3, .int .u64 l3] = Y := ⟨_, rfl⟩
                rw [hY8] at AY8 kY8 DY8 ⊢
                clear hY8
                refine hK.out _ _ ?_ (fun hHeld => ?_)
                · (try dsimp only); exact ⟨HA0.out _ DY8.out, HA1.out _ DY8.out⟩
                clear hK K
                try simp only [List.getElem_toArray, List.getElem_cons_succ, List.getElem_cons_zero, Act.put, List.setIfInBounds_toArray, List.set_cons_zero, List.set_cons_succ]
                refine wpAnyH_done (by kernel_rfl) ?_ _
                exact ⟨(g7, m5, i5), by kernel_rfl, DY8, AY8, yg7⟩
              · go_simp
                obtain ⟨X9, hX9⟩ : ∃ X, V4.alloc (.cells #[.int .u32 0, .int .u32 0, .int .u64 0, .int .u64 0, .int .u64 0, .int .u64 0] 38) = X := ⟨_, rfl⟩
                have bX9 := hid (show Below V4.heap.size V4 X9 from by rw [← hX9]; exact ball _ _)
                have zX9 : X9.heap[V4.heap.size]? = some (.cells #[.int .u32 0, .int .u32 0, .int .u64 0, .int .u64 0, .int .u64 0, .int .u64 0] 38 (0, 0)) := by rw [← hX9]; exact World.alloc_heap_new _ _
                have DX9 := hid (btr DV4.out bX9.out)
                obtain ⟨g10, hg10⟩ : ∃ g, V4.heap.size = g := ⟨_, rfl⟩
                have yg10 := hid (Nat.le_trans DV4.out.size (Nat.le_refl _))
                rw [hg10] at zX9 yg10
                have ZX9 := hid zX9
                rw [hX9, hg10]
                clear hX9 hg10 zX9
                refine hK.out _ _ ?_ (fun hHeld => ?_)
                · (try dsimp only); exact ⟨HA0.out _ DX9.out, HA1.out _ DX9.out⟩
                clear hK K
                try simp only [List.getElem_toArray, List.getElem_cons_succ, List.getElem_cons_zero, Act.put, List.setIfInBounds_toArray, List.set_cons_zero, List.set_cons_succ]
                refine wpAnyH_ready (rs := [11]) (by kernel_rfl) (by simp) ?_
                refine (AllReadyH.cons (o := _) rfl (fun K hK => ?_) AllReadyH.nil)
                go_simp
                go_at_call 12
                with_reducible refine (CX.out X9 DX9.out).mono ?_
                rintro e X11 ⟨⟨m5, i5, rfl⟩, cX11⟩
                have bX11 := hid cX11
                clear cX11
                have DX11 := hid (btr DX9.out bX11.out)
                have r12 := hid (row_on ZX9.out bX11.out)
                (try go_wp2_with fail)
                refine hK.out _ _ ?_ (fun hHeld => ?_)
                · (try dsimp only); exact ⟨HA0.out _ DX11.out, HA1.out _ DX11.out⟩
                clear hK K
                try simp only [List.getElem_toArray, List.getElem_cons_succ, List.getElem_cons_zero, Act.put, List.setIfInBounds_toArray, List.set_cons_zero, List.set_cons_succ]
                refine wpAnyH_ready (rs := [13]) (by kernel_rfl) (by simp) ?_
                refine (AllReadyH.cons (o := _) rfl (fun K hK => ?_) AllReadyH.nil)
                refine step_store_row (by rfl) 38 (.tmp 15) (.tmp 107) (by rfl) g10 #[.int .u32 m5, .int .u32 i5, .int .u64 b3, .int .u64 s3, .int .u64 h3, .int .u64 l3] (by rfl) (by rfl) 38 _ r12.out infoN6 (by rfl) (by simp [Value.oneCell']) ?_
                have AY13 := hid (setRow_heap X11 g10 _ #[.int .u32 m5, .int .u32 i5, .int .u64 b3, .int .u64 s3, .int .u64 h3, .int .u64 l3] 38 (0, 0) r12.out)
                have kY13 := hid (setRow_kp X11 g10 #[.int .u32 m5, .int .u32 i5, .int .u64 b3, .int .u64 s3, .int .u64 h3, .int .u64 l3])
                have DY13 := hid (show Below _ _ _ from DX11.out.trans (kY13.out.below DX11.out.size (fun g hg e => by have := yg10.out; omega)))
                obtain ⟨Y13, hY13⟩ : ∃ Y, X11.setRow g10 #[.int .u32 m5, .int .u32 i5, .int .u64 b3, .int .u64 s3, .int .u64 h3, .int .u64 l3] = Y := ⟨_, rfl⟩
                rw [hY13] at AY13 kY13 DY13 ⊢
                clear hY13
                refine hK.out _ _ ?_ (fun hHeld => ?_)
                · (try dsimp only); exact ⟨HA0.out _ DY13.out, HA1.out _ DY13.out⟩
                clear hK K
                try simp only [List.getElem_toArray, List.getElem_cons_succ, List.getElem_cons_zero, Act.put, List.setIfInBounds_toArray, List.set_cons_zero, List.set_cons_succ]
                refine wpAnyH_done (by kernel_rfl) ?_ _
                exact ⟨(g10, m5, i5), by kernel_rfl, DY13, AY13, yg10⟩
            rintro ⟨gP, m3, i3⟩ V1 ⟨BV1, RP1, LP1⟩
            go_upto_region 18 with fail
            refine reg_cut (X := Nat × Int × Int) (fun a x => (((((((((((((a.put (some 108) (.slice q4 n4 d4)).put (some 109) (.slice (some ⟨g2, 0, none⟩) n2 d2)).put (some 110) (.int .i64 i)).put (some 111) (.pointer (some ⟨g2, i * 6, none⟩))).put (some 112) (.pointer (some ⟨g2, i * 6, none⟩))).put (some 113) (.int .u32 xm)).put (some 114) (.slice (some ⟨g2, 0, none⟩) n2 d2)).put (some 115) (.int .i64 i)).put (some 116) (.pointer (some ⟨g2, i * 6, none⟩))).put (some 117) (.pointer (some ⟨g2, i * 6 + 1, none⟩))).put (some 118) (.int .u32 xi)).put (some 119) (.agg #[.int .u32 x.2.1, .int .u32 x.2.2, .int .u64 b4, .int .u64 s4, .int .u64 h4, .int .u64 l4])).put (some 16) (.pointer (some ⟨x.1, 0, none⟩)))) (fun x V => Hid (Below wr.heap.size wr V) ∧ Hid (V.heap[gP]? = some (.cells #[.int .u32 m3, .int .u32 i3, .int .u64 b3, .int .u64 s3, .int .u64 h3, .int .u64 l3] 38 (0, 0))) ∧ Hid (V.heap[x.1]? = some (.cells #[.int .u32 x.2.1, .int .u32 x.2.2, .int .u64 b4, .int .u64 s4, .int .u64 h4, .int .u64 l4] 38 (0, 0))) ∧ Hid (wr.heap.size ≤ x.1)) ?_ ?_
            · obtain ⟨V14, hV14⟩ : ∃ U, V1.drew = U := ⟨_, rfl⟩
              have bV14 := hid (show Below V1.heap.size V1 V14 from by rw [← hV14]; exact bdrew1 _)
              have DV14 := hid (btr BV1.out bV14.out)
              have r15 := hid (row_on RP1.out bV14.out)
              refine wp_region_held_drew (S := (fun U => U.cell? ⟨g2, i * 6, none⟩ = some (.int .u32 xm) ∧ U.cell? ⟨g2, i * 6 + 1, none⟩ = some (.int .u32 xi))) (by kernel_rfl) ?_ (fun hHeld => ?_)
              · (try dsimp only); rw [hV14]; exact ⟨HA0.out _ DV14.out, HA1.out _ DV14.out⟩
              rw [hV14] at hHeld ⊢
              clear hV14
              refine' wpAnyH_take (i := 0) (oi := _) (v := _) rfl (by kernel_rfl) (by kernel_rfl) (by kernel_rfl) (fun _ _ _ h => h) (Or.inl ⟨by kernel_rfl, ?_⟩) (by assumption) ?_
              rotate_left
              · (intro w hSw; (try dsimp only at hSw); go_simp; try (with_reducible rfl))
              try simp only [List.getElem_toArray, List.getElem_cons_succ, List.getElem_cons_zero, Act.put, List.setIfInBounds_toArray, List.set_cons_zero, List.set_cons_succ]
              refine' wpAnyH_take (i := 1) (oi := _) (v := _) rfl (by kernel_rfl) (by kernel_rfl) (by kernel_rfl) (fun _ _ _ h => h) (Or.inl ⟨by kernel_rfl, ?_⟩) (by assumption) ?_
              rotate_left
              · (intro w hSw; (try dsimp only at hSw); go_simp; try (with_reducible rfl))
              try simp only [List.getElem_toArray, List.getElem_cons_succ, List.getElem_cons_zero, Act.put, List.setIfInBounds_toArray, List.set_cons_zero, List.set_cons_succ]
              refine' wpAnyH_take (i := 2) (oi := _) (v := _) rfl (by kernel_rfl) (by kernel_rfl) (by kernel_rfl) (fun _ _ _ h => h) (Or.inl ⟨by kernel_rfl, ?_⟩) (by assumption) ?_
              rotate_left
              · (intro w hSw; (try dsimp only at hSw); go_simp; try (with_reducible rfl))
              try simp only [List.getElem_toArray, List.getElem_cons_succ, List.getElem_cons_zero, Act.put, List.setIfInBounds_toArray, List.set_cons_zero, List.set_cons_succ]
              refine' wpAnyH_take (i := 3) (oi := _) (v := _) rfl (by kernel_rfl) (by kernel_rfl) (by kernel_rfl) (fun _ _ _ h => h) (Or.inl ⟨by kernel_rfl, ?_⟩) (by assumption) ?_
              rotate_left
              · (intro w hSw; (try dsimp only at hSw); go_simp; try (with_reducible rfl))
              try simp only [List.getElem_toArray, List.getElem_cons_succ, List.getElem_cons_zero, Act.put, List.setIfInBounds_toArray, List.set_cons_zero, List.set_cons_succ]
              refine' wpAnyH_take (i := 4) (oi := _) (v := _) rfl (by kernel_rfl) (by kernel_rfl) (by kernel_rfl) (fun _ _ _ h => h) (Or.inl ⟨by kernel_rfl, ?_⟩) (by assumption) ?_
              rotate_left
              · (intro w hSw; (try dsimp only at hSw); go_simp; try (with_reducible rfl))
              try simp only [List.getElem_toArray, List.getElem_cons_succ, List.getElem_cons_zero, Act.put, List.setIfInBounds_toArray, List.set_cons_zero, List.set_cons_succ]
              refine' wpAnyH_take (i := 5) (oi := _) (v := _) rfl (by kernel_rfl) (by kernel_rfl) (by kernel_rfl) (fun _ _ _ h => h) (Or.inl ⟨by kernel_rfl, ?_⟩) (by assumption) ?_
              rotate_left
              · (intro w hSw; (try dsimp only at hSw); go_simp; try (with_reducible rfl))
              try simp only [List.getElem_toArray, List.getElem_cons_succ, List.getElem_cons_zero, Act.put, List.setIfInBounds_toArray, List.set_cons_zero, List.set_cons_succ]
              refine' wpAnyH_take (i := 6) (oi := _) (v := _) rfl (by kernel_rfl) (by kernel_rfl) (by kernel_rfl) (fun _ _ _ h => h) (Or.inl ⟨by kernel_rfl, ?_⟩) (by assumption) ?_
              rotate_left
              · (intro w hSw; (try dsimp only at hSw); go_simp; try (with_reducible rfl))
              try simp only [List.getElem_toArray, List.getElem_cons_succ, List.getElem_cons_zero, Act.put, List.setIfInBounds_toArray, List.set_cons_zero, List.set_cons_succ]
              refine' wpAnyH_take (i := 7) (oi := _) (v := _) rfl (by kernel_rfl) (by kernel_rfl) (by kernel_rfl) (fun _ _ _ h => h) (Or.inl ⟨by kernel_rfl, ?_⟩) (by assumption) ?_
              rotate_left
              · (intro w hSw; (try dsimp only at hSw); go_simp; try (with_reducible rfl))
              try simp only [List.getElem_toArray, List.getElem_cons_succ, List.getElem_cons_zero, Act.put, List.setIfInBounds_toArray, List.set_cons_zero, List.set_cons_succ]
              refine' wpAnyH_take (i := 8) (oi := _) (v := _) rfl (by kernel_rfl) (by kernel_rfl) (by kernel_rfl) (fun _ _ _ h => h) (Or.inl ⟨by kernel_rfl, ?_⟩) (by assumption) ?_
              rotate_left
              · (intro w hSw; (try dsimp only at hSw); go_simp; try (with_reducible rfl))
              try simp only [List.getElem_toArray, List.getElem_cons_succ, List.getElem_cons_zero, Act.put, List.setIfInBounds_toArray, List.set_cons_zero, List.set_cons_succ]
              refine' wpAnyH_take (i := 9) (oi := _) (v := _) rfl (by kernel_rfl) (by kernel_rfl) (by kernel_rfl) (fun _ _ _ h => h) (Or.inl ⟨by kernel_rfl, ?_⟩) (by assumption) ?_
              rotate_left
              · (intro w hSw; (try dsimp only at hSw); go_simp; try (with_reducible rfl))
              try simp only [List.getElem_toArray, List.getElem_cons_succ, List.getElem_cons_zero, Act.put, List.setIfInBounds_toArray, List.set_cons_zero, List.set_cons_succ]
              refine' wpAnyH_take (i := 10) (oi := _) (v := _) rfl (by kernel_rfl) (by kernel_rfl) (by kernel_rfl) (fun _ _ _ h => h) (Or.inl ⟨by kernel_rfl, ?_⟩) (by assumption) ?_
              rotate_left
              · (intro w hSw; (try dsimp only at hSw); go_simp; try (with_reducible rfl))
              try simp only [List.getElem_toArray, List.getElem_cons_succ, List.getElem_cons_zero, Act.put, List.setIfInBounds_toArray, List.set_cons_zero, List.set_cons_succ]
              refine wpAnyH_ready (rs := [11, 12]) (by kernel_rfl) (by simp) ?_
              refine (AllReadyH.cons (o := _) rfl (fun K hK => ?_) (AllReadyH.cons (o := _) rfl (fun K hK => ?_) AllReadyH.nil))
              · go_simp
                go_at_call 12
                with_reducible refine (CY.out V14 DV14.out).mono ?_
                rintro e X16 ⟨⟨m5, i5, rfl⟩, cX16⟩
                have bX16 := hid cX16
                clear cX16
                have DX16 := hid (btr DV14.out bX16.out)
                have r17 := hid (row_on r15.out bX16.out)
                (try go_wp2_with fail)
                refine hK.out _ _ ?_ (fun hHeld => ?_)
                · (try dsimp only); exact ⟨HA0.out _ DX16.out, HA1.out _ DX16.out⟩
                clear hK K
                try simp only [List.getElem_toArray, List.getElem_cons_succ, List.getElem_cons_zero, Act.put, List.setIfInBounds_toArray, List.set_cons_zero, List.set_cons_succ]
                refine wpAnyH_ready (rs := [12]) (by kernel_rfl) (by simp) ?_
                refine (AllReadyH.cons (o := _) rfl (fun K hK => ?_) AllReadyH.nil)
                go_simp
                obtain ⟨X18, hX18⟩ : ∃ X, X16.alloc (.cells #[.int .u32 0, .int .u32 0, .int .u64 0, .int .u64 0, .int .u64 0, .int .u64 0] 38) = X := ⟨_, rfl⟩
                have bX18 := hid (show Below X16.heap.size X16 X18 from by rw [← hX18]; exact ball _ _)
                have zX18 : X18.heap[X16.heap.size]? = some (.cells #[.int .u32 0, .int .u32 0, .int .u64 0, .int .u64 0, .int .u64 0, .int .u64 0] 38 (0, 0)) := by rw [← hX18]; exact World.alloc_heap_new _ _
                have DX18 := hid (btr DX16.out bX18.out)
                have r20 := hid (row_on r17.out bX18.out)
                obtain ⟨g19, hg19⟩ : ∃ g, X16.heap.size = g := ⟨_, rfl⟩
                have ne21 := hid (show gP ≠ g19 from by have := row_lt r17.out; omega)
                have yg19 := hid (Nat.le_trans DX16.out.size (Nat.le_refl _))
                rw [hg19] at zX18 yg19
                have ZX18 := hid zX18
                rw [hX18, hg19]
                clear hX18 hg19 zX18
                refine hK.out _ _ ?_ (fun hHeld => ?_)
                · (try dsimp only); exact ⟨HA0.out _ DX18.out, HA1.out _ DX18.out⟩
                clear hK K
                try simp only [List.getElem_toArray, List.getElem_cons_succ, List.getElem_cons_zero, Act.put, List.setIfInBounds_toArray, List.set_cons_zero, List.set_cons_succ]
                refine wpAnyH_ready (rs := [13]) (by kernel_rfl) (by simp) ?_
                refine (AllReadyH.cons (o := _) rfl (fun K hK => ?_) AllReadyH.nil)
                refine step_store_row (by rfl) 38 (.tmp 16) (.tmp 119) (by rfl) g19 #[.int .u32 m5, .int .u32 i5, .int .u64 b4, .int .u64 s4, .int .u64 h4, .int .u64 l4] (by rfl) (by rfl) 38 _ ZX18.out infoN6 (by rfl) (by simp [Value.oneCell']) ?_
                have AY22 := hid (setRow_heap X18 g19 _ #[.int .u32 m5, .int .u32 i5, .int .u64 b4, .int .u64 s4, .int .u64 h4, .int .u64 l4] 38 (0, 0) ZX18.out)
                have kY22 := hid (setRow_kp X18 g19 #[.int .u32 m5, .int .u32 i5, .int .u64 b4, .int .u64 s4, .int .u64 h4, .int .u64 l4])
                have r23 := hid (kY22.out.row r20.out (fun e => ne21.out e))
                have DY22 := hid (show Below _ _ _ from DX18.out.trans (kY22.out.below DX18.out.size (fun g hg e => by have := yg19.out; omega)))
                obtain ⟨Y22, hY22⟩ : ∃ Y, X18.setRow g19 #[.int .u32 m5, .int .u32 i5, .int .u64 b4, .int .u64 s4, .int .u64 h4, .int .u64 l4] = Y := ⟨_, rfl⟩
                rw [hY22] at AY22 kY22 DY22 r23 ⊢
                clear hY22
                refine hK.out _ _ ?_ (fun hHeld => ?_)
                · (try dsimp only); exact ⟨HA0.out _ DY22.out, HA1.out _ DY22.out⟩
                clear hK K
                try simp only [List.getElem_toArray, List.getElem_cons_succ, List.getElem_cons_zero, Act.put, List.setIfInBounds_toArray, List.set_cons_zero, List.set_cons_succ]
                refine wpAnyH_done (by kernel_rfl) ?_ _
                exact ⟨(g19, m5, i5), by kernel_rfl, DY22, r23, AY22, yg19⟩
              · go_simp
                obtain ⟨X24, hX24⟩ : ∃ X, V14.alloc (.cells #[.int .u32 0, .int .u32 0, .int .u64 0, .int .u64 0, .int .u64 0, .int .u64 0] 38) = X := ⟨_, rfl⟩
                have bX24 := hid (show Below V14.heap.size V14 X24 from by rw [← hX24]; exact ball _ _)
                have zX24 : X24.heap[V14.heap.size]? = some (.cells #[.int .u32 0, .int .u32 0, .int .u64 0, .int .u64 0, .int .u64 0, .int .u64 0] 38 (0, 0)) := by rw [← hX24]; exact World.alloc_heap_new _ _
                have DX24 := hid (btr DV14.out bX24.out)
                have r26 := hid (row_on r15.out bX24.out)
                obtain ⟨g25, hg25⟩ : ∃ g, V14.heap.size = g := ⟨_, rfl⟩
                have ne27 := hid (show gP ≠ g25 from by have := row_lt r15.out; omega)
                have yg25 := hid (Nat.le_trans DV14.out.size (Nat.le_refl _))
                rw [hg25] at zX24 yg25
                have ZX24 := hid zX24
                rw [hX24, hg25]
                clear hX24 hg25 zX24
                refine hK.out _ _ ?_ (fun hHeld => ?_)
                · (try dsimp only); exact ⟨HA0.out _ DX24.out, HA1.out _ DX24.out⟩
                clear hK K
                try simp only [List.getElem_toArray, List.getElem_cons_succ, List.getElem_cons_zero, Act.put, List.setIfInBounds_toArray, List.set_cons_zero, List.set_cons_succ]
                refine wpAnyH_ready (rs := [11]) (by kernel_rfl) (by simp) ?_
                refine (AllReadyH.cons (o := _) rfl (fun K hK => ?_) AllReadyH.nil)
                go_simp
                go_at_call 12
                with_reducible refine (CY.out X24 DX24.out).mono ?_
                rintro e X28 ⟨⟨m5, i5, rfl⟩, cX28⟩
                have bX28 := hid cX28
                clear cX28
                have DX28 := hid (btr DX24.out bX28.out)
                have r29 := hid (row_on r26.out bX28.out)
                have r30 := hid (row_on ZX24.out bX28.out)
                (try go_wp2_with fail)
                refine hK.out _ _ ?_ (fun hHeld => ?_)
                · (try dsimp only); exact ⟨HA0.out _ DX28.out, HA1.out _ DX28.out⟩
                clear hK K
                try simp only [List.getElem_toArray, List.getElem_cons_succ, List.getElem_cons_zero, Act.put, List.setIfInBounds_toArray, List.set_cons_zero, List.set_cons_succ]
                refine wpAnyH_ready (rs := [13]) (by kernel_rfl) (by simp) ?_
                refine (AllReadyH.cons (o := _) rfl (fun K hK => ?_) AllReadyH.nil)
                refine step_store_row (by rfl) 38 (.tmp 16) (.tmp 119) (by rfl) g25 #[.int .u32 m5, .int .u32 i5, .int .u64 b4, .int .u64 s4, .int .u64 h4, .int .u64 l4] (by rfl) (by rfl) 38 _ r30.out infoN6 (by rfl) (by simp [Value.oneCell']) ?_
                have AY31 := hid (setRow_heap X28 g25 _ #[.int .u32 m5, .int .u32 i5, .int .u64 b4, .int .u64 s4, .int .u64 h4, .int .u64 l4] 38 (0, 0) r30.out)
                have kY31 := hid (setRow_kp X28 g25 #[.int .u32 m5, .int .u32 i5, .int .u64 b4, .int .u64 s4, .int .u64 h4, .int .u64 l4])
                have r32 := hid (kY31.out.row r29.out (fun e => ne27.out e))
                have DY31 := hid (show Below _ _ _ from DX28.out.trans (kY31.out.below DX28.out.size (fun g hg e => by have := yg25.out; omega)))
                obtain ⟨Y31, hY31⟩ : ∃ Y, X28.setRow g25 #[.int .u32 m5, .int .u32 i5, .int .u64 b4, .int .u64 s4, .int .u64 h4, .int .u64 l4] = Y := ⟨_, rfl⟩
                rw [hY31] at AY31 kY31 DY31 r32 ⊢
                clear hY31
                refine hK.out _ _ ?_ (fun hHeld => ?_)
                · (try dsimp only); exact ⟨HA0.out _ DY31.out, HA1.out _ DY31.out⟩
                clear hK K
                try simp only [List.getElem_toArray, List.getElem_cons_succ, List.getElem_cons_zero, Act.put, List.setIfInBounds_toArray, List.set_cons_zero, List.set_cons_succ]
                refine wpAnyH_done (by kernel_rfl) ?_ _
                exact ⟨(g25, m5, i5), by kernel_rfl, DY31, r32, AY31, yg25⟩
            rintro ⟨gQ, m4, i4⟩ V2 ⟨BV2, RP2, RQ2, LQ2⟩
            go_upto_region 19 with fail
            obtain ⟨V33, hV33⟩ : ∃ U, V2.drew = U := ⟨_, rfl⟩
            have bV33 := hid (show Below V2.heap.size V2 V33 from by rw [← hV33]; exact bdrew1 _)
            have DV33 := hid (btr BV2.out bV33.out)
            have r34 := hid (row_on RP2.out bV33.out)
            have r35 := hid (row_on RQ2.out bV33.out)
            refine wp_region_held_drew (S := (fun U => U.cell? ⟨gP, 2, none⟩ = some (.int .u64 b3) ∧ U.cell? ⟨gP, 3, none⟩ = some (.int .u64 s3) ∧ U.cell? ⟨gP, 4, none⟩ = some (.int .u64 h3) ∧ U.cell? ⟨gP, 5, none⟩ = some (.int .u64 l3) ∧ U.cell? ⟨gQ, 2, none⟩ = some (.int .u64 b4) ∧ U.cell? ⟨gQ, 3, none⟩ = some (.int .u64 s4) ∧ U.cell? ⟨gQ, 4, none⟩ = some (.int .u64 h4) ∧ U.cell? ⟨gQ, 5, none⟩ = some (.int .u64 l4) ∧ U.cell? ⟨g2, i * 6 + 2, none⟩ = some (.int .u64 xb) ∧ U.cell? ⟨g2, i * 6 + 3, none⟩ = some (.int .u64 xs) ∧ U.cell? ⟨g2, i * 6 + 4, none⟩ = some (.int .u64 hx) ∧ U.cell? ⟨g2, i * 6 + 5, none⟩ = some (.int .u64 lx))) (by kernel_rfl) ?_ (fun hHeld => ?_)
            · (try dsimp only); rw [hV33]; exact ⟨row_cell r34.out 2, row_cell r34.out 3, row_cell r34.out 4, row_cell r34.out 5, row_cell r35.out 2, row_cell r35.out 3, row_cell r35.out 4, row_cell r35.out 5, HA2.out _ DV33.out, HA3.out _ DV33.out, HA4.out _ DV33.out, HA5.out _ DV33.out⟩
            rw [hV33] at hHeld ⊢
            clear hV33
            refine' wpAnyH_take (i := 0) (oi := _) (v := _) rfl (by kernel_rfl) (by kernel_rfl) (by kernel_rfl) (fun _ _ _ h => h) (Or.inl ⟨by kernel_rfl, ?_⟩) (by assumption) ?_
            rotate_left
            · (intro w hSw; (try dsimp only at hSw); go_simp; try (with_reducible rfl))
            try simp only [List.getElem_toArray, List.getElem_cons_succ, List.getElem_cons_zero, Act.put, List.setIfInBounds_toArray, List.set_cons_zero, List.set_cons_succ]
            refine' wpAnyH_take (i := 1) (oi := _) (v := _) rfl (by kernel_rfl) (by kernel_rfl) (by kernel_rfl) (fun _ _ _ h => h) (Or.inl ⟨by kernel_rfl, ?_⟩) (by assumption) ?_
            rotate_left
            · (intro w hSw; (try dsimp only at hSw); go_simp; try (with_reducible rfl))
            try simp only [List.getElem_toArray, List.getElem_cons_succ, List.getElem_cons_zero, Act.put, List.setIfInBounds_toArray, List.set_cons_zero, List.set_cons_succ]
            refine' wpAnyH_take (i := 2) (oi := _) (v := _) rfl (by kernel_rfl) (by kernel_rfl) (by kernel_rfl) (fun _ _ _ h => h) (Or.inl ⟨by kernel_rfl, ?_⟩) (by assumption) ?_
            rotate_left
            · (intro w hSw; (try dsimp only at hSw); go_simp; try (with_reducible rfl))
            try simp only [List.getElem_toArray, List.getElem_cons_succ, List.getElem_cons_zero, Act.put, List.setIfInBounds_toArray, List.set_cons_zero, List.set_cons_succ]
            refine' wpAnyH_take (i := 3) (oi := _) (v := _) rfl (by kernel_rfl) (by kernel_rfl) (by kernel_rfl) (fun _ _ _ h => h) (Or.inl ⟨by kernel_rfl, ?_⟩) (by assumption) ?_
            rotate_left
            · (intro w hSw; (try dsimp only at hSw); go_simp; try (with_reducible rfl))
            try simp only [List.getElem_toArray, List.getElem_cons_succ, List.getElem_cons_zero, Act.put, List.setIfInBounds_toArray, List.set_cons_zero, List.set_cons_succ]
            refine' wpAnyH_take (i := 4) (oi := _) (v := _) rfl (by kernel_rfl) (by kernel_rfl) (by kernel_rfl) (fun _ _ _ h => h) (Or.inl ⟨by kernel_rfl, ?_⟩) (by assumption) ?_
            rotate_left
            · (intro w hSw; (try dsimp only at hSw); go_simp; try (with_reducible rfl))
            try simp only [List.getElem_toArray, List.getElem_cons_succ, List.getElem_cons_zero, Act.put, List.setIfInBounds_toArray, List.set_cons_zero, List.set_cons_succ]
            refine' wpAnyH_take (i := 5) (oi := _) (v := _) rfl (by kernel_rfl) (by kernel_rfl) (by kernel_rfl) (fun _ _ _ h => h) (Or.inl ⟨by kernel_rfl, ?_⟩) (by assumption) ?_
            rotate_left
            · (intro w hSw; (try dsimp only at hSw); go_simp; try (with_reducible rfl))
            try simp only [List.getElem_toArray, List.getElem_cons_succ, List.getElem_cons_zero, Act.put, List.setIfInBounds_toArray, List.set_cons_zero, List.set_cons_succ]
            refine' wpAnyH_take (i := 6) (oi := _) (v := _) rfl (by kernel_rfl) (by kernel_rfl) (by kernel_rfl) (fun _ _ _ h => h) (Or.inl ⟨by kernel_rfl, ?_⟩) (by assumption) ?_
            rotate_left
            · (intro w hSw; (try dsimp only at hSw); go_simp; try (with_reducible rfl))
            try simp only [List.getElem_toArray, List.getElem_cons_succ, List.getElem_cons_zero, Act.put, List.setIfInBounds_toArray, List.set_cons_zero, List.set_cons_succ]
            refine' wpAnyH_take (i := 7) (oi := _) (v := _) rfl (by kernel_rfl) (by kernel_rfl) (by kernel_rfl) (fun _ _ _ h => h) (Or.inl ⟨by kernel_rfl, ?_⟩) (by assumption) ?_
            rotate_left
            · (intro w hSw; (try dsimp only at hSw); go_simp; try (with_reducible rfl))
            try simp only [List.getElem_toArray, List.getElem_cons_succ, List.getElem_cons_zero, Act.put, List.setIfInBounds_toArray, List.set_cons_zero, List.set_cons_succ]
            refine' wpAnyH_take (i := 8) (oi := _) (v := _) rfl (by kernel_rfl) (by kernel_rfl) (by kernel_rfl) (fun _ _ _ h => h) (Or.inl ⟨by kernel_rfl, ?_⟩) (by assumption) ?_
            rotate_left
            · (intro w hSw; (try dsimp only at hSw); go_simp; try (with_reducible rfl))
            try simp only [List.getElem_toArray, List.getElem_cons_succ, List.getElem_cons_zero, Act.put, List.setIfInBounds_toArray, List.set_cons_zero, List.set_cons_succ]
            refine' wpAnyH_take (i := 9) (oi := _) (v := _) rfl (by kernel_rfl) (by kernel_rfl) (by kernel_rfl) (fun _ _ _ h => h) (Or.inl ⟨by kernel_rfl, ?_⟩) (by assumption) ?_
            rotate_left
            · (intro w hSw; (try dsimp only at hSw); go_simp; try (with_reducible rfl))
            try simp only [List.getElem_toArray, List.getElem_cons_succ, List.getElem_cons_zero, Act.put, List.setIfInBounds_toArray, List.set_cons_zero, List.set_cons_succ]
            refine' wpAnyH_take (i := 10) (oi := _) (v := _) rfl (by kernel_rfl) (by kernel_rfl) (by kernel_rfl) (fun _ _ _ h => h) (Or.inl ⟨by kernel_rfl, ?_⟩) (by assumption) ?_
            rotate_left
            · (intro w hSw; (try dsimp only at hSw); go_simp; try (with_reducible rfl))
            try simp only [List.getElem_toArray, List.getElem_cons_succ, List.getElem_cons_zero, Act.put, List.setIfInBounds_toArray, List.set_cons_zero, List.set_cons_succ]
            refine' wpAnyH_take (i := 11) (oi := _) (v := _) rfl (by kernel_rfl) (by kernel_rfl) (by kernel_rfl) (fun _ _ _ h => h) (Or.inl ⟨by kernel_rfl, ?_⟩) (by assumption) ?_
            rotate_left
            · (intro w hSw; (try dsimp only at hSw); go_simp; try (with_reducible rfl))
            try simp only [List.getElem_toArray, List.getElem_cons_succ, List.getElem_cons_zero, Act.put, List.setIfInBounds_toArray, List.set_cons_zero, List.set_cons_succ]
            refine' wpAnyH_take (i := 12) (oi := _) (v := _) rfl (by kernel_rfl) (by kernel_rfl) (by kernel_rfl) (fun _ _ _ h => h) (Or.inl ⟨by kernel_rfl, ?_⟩) (by assumption) ?_
            rotate_left
            · (intro w hSw; (try dsimp only at hSw); go_simp; try (with_reducible rfl))
            try simp only [List.getElem_toArray, List.getElem_cons_succ, List.getElem_cons_zero, Act.put, List.setIfInBounds_toArray, List.set_cons_zero, List.set_cons_succ]
            refine' wpAnyH_take (i := 13) (oi := _) (v := _) rfl (by kernel_rfl) (by kernel_rfl) (by kernel_rfl) (fun _ _ _ h => h) (Or.inl ⟨by kernel_rfl, ?_⟩) (by assumption) ?_
            rotate_left
            · (intro w hSw; (try dsimp only at hSw); go_simp; try (with_reducible rfl))
            try simp only [List.getElem_toArray, List.getElem_cons_succ, List.getElem_cons_zero, Act.put, List.setIfInBounds_toArray, List.set_cons_zero, List.set_cons_succ]
            refine' wpAnyH_take (i := 14) (oi := _) (v := _) rfl (by kernel_rfl) (by kernel_rfl) (by kernel_rfl) (fun _ _ _ h => h) (Or.inl ⟨by kernel_rfl, ?_⟩) (by assumption) ?_
            rotate_left
            · (intro w hSw; (try dsimp only at hSw); go_simp; try (with_reducible rfl))
            try simp only [List.getElem_toArray, List.getElem_cons_succ, List.getElem_cons_zero, Act.put, List.setIfInBounds_toArray, List.set_cons_zero, List.set_cons_succ]
            refine' wpAnyH_take (i := 15) (oi := _) (v := _) rfl (by kernel_rfl) (by kernel_rfl) (by kernel_rfl) (fun _ _ _ h => h) (Or.inl ⟨by kernel_rfl, ?_⟩) (by assumption) ?_
            rotate_left
            · (intro w hSw; (try dsimp only at hSw); go_simp; try (with_reducible rfl))
            try simp only [List.getElem_toArray, List.getElem_cons_succ, List.getElem_cons_zero, Act.put, List.setIfInBounds_toArray, List.set_cons_zero, List.set_cons_succ]
            refine' wpAnyH_take (i := 16) (oi := _) (v := _) rfl (by kernel_rfl) (by kernel_rfl) (by kernel_rfl) (fun _ _ _ h => h) (Or.inl ⟨by kernel_rfl, ?_⟩) (by assumption) ?_
            rotate_left
            · (intro w hSw; (try dsimp only at hSw); go_simp; try (with_reducible rfl))
            try simp only [List.getElem_toArray, List.getElem_cons_succ, List.getElem_cons_zero, Act.put, List.setIfInBounds_toArray, List.set_cons_zero, List.set_cons_succ]
            refine' wpAnyH_take (i := 17) (oi := _) (v := _) rfl (by kernel_rfl) (by kernel_rfl) (by kernel_rfl) (fun _ _ _ h => h) (Or.inl ⟨by kernel_rfl, ?_⟩) (by assumption) ?_
            rotate_left
            · (intro w hSw; (try dsimp only at hSw); go_simp; try (with_reducible rfl))
            try simp only [List.getElem_toArray, List.getElem_cons_succ, List.getElem_cons_zero, Act.put, List.setIfInBounds_toArray, List.set_cons_zero, List.set_cons_succ]
            refine' wpAnyH_take (i := 18) (oi := _) (v := _) rfl (by kernel_rfl) (by kernel_rfl) (by kernel_rfl) (fun _ _ _ h => h) (Or.inl ⟨by kernel_rfl, ?_⟩) (by assumption) ?_
            rotate_left
            · (intro w hSw; (try dsimp only at hSw); go_simp; try (with_reducible rfl))
            try simp only [List.getElem_toArray, List.getElem_cons_succ, List.getElem_cons_zero, Act.put, List.setIfInBounds_toArray, List.set_cons_zero, List.set_cons_succ]
            refine' wpAnyH_take (i := 19) (oi := _) (v := _) rfl (by kernel_rfl) (by kernel_rfl) (by kernel_rfl) (fun _ _ _ h => h) (Or.inl ⟨by kernel_rfl, ?_⟩) (by assumption) ?_
            rotate_left
            · (intro w hSw; (try dsimp only at hSw); go_simp; try (with_reducible rfl))
            try simp only [List.getElem_toArray, List.getElem_cons_succ, List.getElem_cons_zero, Act.put, List.setIfInBounds_toArray, List.set_cons_zero, List.set_cons_succ]
            refine' wpAnyH_take (i := 20) (oi := _) (v := _) rfl (by kernel_rfl) (by kernel_rfl) (by kernel_rfl) (fun _ _ _ h => h) (Or.inl ⟨by kernel_rfl, ?_⟩) (by assumption) ?_
            rotate_left
            · (intro w hSw; (try dsimp only at hSw); go_simp; try (with_reducible rfl))
            try simp only [List.getElem_toArray, List.getElem_cons_succ, List.getElem_cons_zero, Act.put, List.setIfInBounds_toArray, List.set_cons_zero, List.set_cons_succ]
            refine' wpAnyH_take (i := 21) (oi := _) (v := _) rfl (by kernel_rfl) (by kernel_rfl) (by kernel_rfl) (fun _ _ _ h => h) (Or.inl ⟨by kernel_rfl, ?_⟩) (by assumption) ?_
            rotate_left
            · (intro w hSw; (try dsimp only at hSw); go_simp; try (with_reducible rfl))
            try simp only [List.getElem_toArray, List.getElem_cons_succ, List.getElem_cons_zero, Act.put, List.setIfInBounds_toArray, List.set_cons_zero, List.set_cons_succ]
            refine' wpAnyH_take (i := 22) (oi := _) (v := _) rfl (by kernel_rfl) (by kernel_rfl) (by kernel_rfl) (fun _ _ _ h => h) (Or.inl ⟨by kernel_rfl, ?_⟩) (by assumption) ?_
            rotate_left
            · (intro w hSw; (try dsimp only at hSw); go_simp; try (with_reducible rfl))
            try simp only [List.getElem_toArray, List.getElem_cons_succ, List.getElem_cons_zero, Act.put, List.setIfInBounds_toArray, List.set_cons_zero, List.set_cons_succ]
            refine' wpAnyH_take (i := 23) (oi := _) (v := _) rfl (by kernel_rfl) (by kernel_rfl) (by kernel_rfl) (fun _ _ _ h => h) (Or.inl ⟨by kernel_rfl, ?_⟩) (by assumption) ?_
            rotate_left
            · (intro w hSw; (try dsimp only at hSw); go_simp; try (with_reducible rfl))
            try simp only [List.getElem_toArray, List.getElem_cons_succ, List.getElem_cons_zero, Act.put, List.setIfInBounds_toArray, List.set_cons_zero, List.set_cons_succ]
            refine' wpAnyH_take (i := 24) (oi := _) (v := _) rfl (by kernel_rfl) (by kernel_rfl) (by kernel_rfl) (fun _ _ _ h => h) (Or.inl ⟨by kernel_rfl, ?_⟩) (by assumption) ?_
            rotate_left
            · (intro w hSw; (try dsimp only at hSw); go_simp; try (with_reducible rfl))
            try simp only [List.getElem_toArray, List.getElem_cons_succ, List.getElem_cons_zero, Act.put, List.setIfInBounds_toArray, List.set_cons_zero, List.set_cons_succ]
            refine' wpAnyH_take (i := 25) (oi := _) (v := _) rfl (by kernel_rfl) (by kernel_rfl) (by kernel_rfl) (fun _ _ _ h => h) (Or.inl ⟨by kernel_rfl, ?_⟩) (by assumption) ?_
            rotate_left
            · (intro w hSw; (try dsimp only at hSw); go_simp; try (with_reducible rfl))
            try simp only [List.getElem_toArray, List.getElem_cons_succ, List.getElem_cons_zero, Act.put, List.setIfInBounds_toArray, List.set_cons_zero, List.set_cons_succ]
            refine' wpAnyH_take (i := 26) (oi := _) (v := _) rfl (by kernel_rfl) (by kernel_rfl) (by kernel_rfl) (fun _ _ _ h => h) (Or.inl ⟨by kernel_rfl, ?_⟩) (by assumption) ?_
            rotate_left
            · (intro w hSw; (try dsimp only at hSw); go_simp; try (with_reducible rfl))
            try simp only [List.getElem_toArray, List.getElem_cons_succ, List.getElem_cons_zero, Act.put, List.setIfInBounds_toArray, List.set_cons_zero, List.set_cons_succ]
            refine' wpAnyH_take (i := 27) (oi := _) (v := _) rfl (by kernel_rfl) (by kernel_rfl) (by kernel_rfl) (fun _ _ _ h => h) (Or.inl ⟨by kernel_rfl, ?_⟩) (by assumption) ?_
            rotate_left
            · (intro w hSw; (try dsimp only at hSw); go_simp; try (with_reducible rfl))
            try simp only [List.getElem_toArray, List.getElem_cons_succ, List.getElem_cons_zero, Act.put, List.setIfInBounds_toArray, List.set_cons_zero, List.set_cons_succ]
            refine' wpAnyH_take (i := 28) (oi := _) (v := _) rfl (by kernel_rfl) (by kernel_rfl) (by kernel_rfl) (fun _ _ _ h => h) (Or.inl ⟨by kernel_rfl, ?_⟩) (by assumption) ?_
            rotate_left
            · (intro w hSw; (try dsimp only at hSw); go_simp; try (with_reducible rfl))
            try simp only [List.getElem_toArray, List.getElem_cons_succ, List.getElem_cons_zero, Act.put, List.setIfInBounds_toArray, List.set_cons_zero, List.set_cons_succ]
            refine' wpAnyH_take (i := 30) (oi := _) (v := _) rfl (by kernel_rfl) (by kernel_rfl) (by kernel_rfl) (fun _ _ _ h => h) (Or.inl ⟨by kernel_rfl, ?_⟩) (by assumption) ?_
            rotate_left
            · (intro w hSw; (try dsimp only at hSw); go_simp; try (with_reducible rfl))
            try simp only [List.getElem_toArray, List.getElem_cons_succ, List.getElem_cons_zero, Act.put, List.setIfInBounds_toArray, List.set_cons_zero, List.set_cons_succ]
            refine' wpAnyH_take (i := 31) (oi := _) (v := _) rfl (by kernel_rfl) (by kernel_rfl) (by kernel_rfl) (fun _ _ _ h => h) (Or.inl ⟨by kernel_rfl, ?_⟩) (by assumption) ?_
            rotate_left
            · (intro w hSw; (try dsimp only at hSw); go_simp; try (with_reducible rfl))
            try simp only [List.getElem_toArray, List.getElem_cons_succ, List.getElem_cons_zero, Act.put, List.setIfInBounds_toArray, List.set_cons_zero, List.set_cons_succ]
            refine' wpAnyH_take (i := 32) (oi := _) (v := _) rfl (by kernel_rfl) (by kernel_rfl) (by kernel_rfl) (fun _ _ _ h => h) (Or.inl ⟨by kernel_rfl, ?_⟩) (by assumption) ?_
            rotate_left
            · (intro w hSw; (try dsimp only at hSw); go_simp; try (with_reducible rfl))
            try simp only [List.getElem_toArray, List.getElem_cons_succ, List.getElem_cons_zero, Act.put, List.setIfInBounds_toArray, List.set_cons_zero, List.set_cons_succ]
            refine' wpAnyH_take (i := 33) (oi := _) (v := _) rfl (by kernel_rfl) (by kernel_rfl) (by kernel_rfl) (fun _ _ _ h => h) (Or.inl ⟨by kernel_rfl, ?_⟩) (by assumption) ?_
            rotate_left
            · (intro w hSw; (try dsimp only at hSw); go_simp; try (with_reducible rfl))
            try simp only [List.getElem_toArray, List.getElem_cons_succ, List.getElem_cons_zero, Act.put, List.setIfInBounds_toArray, List.set_cons_zero, List.set_cons_succ]
            refine' wpAnyH_take (i := 34) (oi := _) (v := _) rfl (by kernel_rfl) (by kernel_rfl) (by kernel_rfl) (fun _ _ _ h => h) (Or.inl ⟨by kernel_rfl, ?_⟩) (by assumption) ?_
            rotate_left
            · (intro w hSw; (try dsimp only at hSw); go_simp; try (with_reducible rfl))
            try simp only [List.getElem_toArray, List.getElem_cons_succ, List.getElem_cons_zero, Act.put, List.setIfInBounds_toArray, List.set_cons_zero, List.set_cons_succ]
            refine wpAnyH_ready (rs := [29]) (by kernel_rfl) (by simp) ?_
            refine (AllReadyH.cons (o := _) rfl (fun K hK => ?_) AllReadyH.nil)
            go_simp
            go_at_call 9
            with_reducible refine (CS.out V33).mono ?_
            rintro e X36 ⟨rfl, cX36⟩
            skip
            have bX36 := hid cX36
            clear cX36
            have DX36 := hid (btr DV33.out bX36.out)
            have r37 := hid (row_on r34.out bX36.out)
            have r38 := hid (row_on r35.out bX36.out)
            (try go_wp2_with fail)
            refine hK.out _ _ ?_ (fun hHeld => ?_)
            · (try dsimp only); exact ⟨row_cell r37.out 2, row_cell r37.out 3, row_cell r37.out 4, row_cell r37.out 5, row_cell r38.out 2, row_cell r38.out 3, row_cell r38.out 4, row_cell r38.out 5, HA2.out _ DX36.out, HA3.out _ DX36.out, HA4.out _ DX36.out, HA5.out _ DX36.out⟩
            clear hK K
            try simp only [List.getElem_toArray, List.getElem_cons_succ, List.getElem_cons_zero, Act.put, List.setIfInBounds_toArray, List.set_cons_zero, List.set_cons_succ]
            refine wpAnyH_ready (rs := [35]) (by kernel_rfl) (by simp) ?_
            refine (AllReadyH.cons (o := _) rfl (fun K hK => ?_) AllReadyH.nil)
            go_simp
            go_at_call 10
            with_reducible refine (CC.out X36).mono ?_
            rintro e X39 ⟨rfl, cX39⟩
            have bX39 := hid cX39
            clear cX39
            have DX39 := hid (btr DX36.out bX39.out)
            have r40 := hid (row_on r37.out bX39.out)
            have r41 := hid (row_on r38.out bX39.out)
            (try go_wp2_with fail)
            refine hK.out _ _ ?_ (fun hHeld => ?_)
            · (try dsimp only); exact ⟨row_cell r40.out 2, row_cell r40.out 3, row_cell r40.out 4, row_cell r40.out 5, row_cell r41.out 2, row_cell r41.out 3, row_cell r41.out 4, row_cell r41.out 5, HA2.out _ DX39.out, HA3.out _ DX39.out, HA4.out _ DX39.out, HA5.out _ DX39.out⟩
            clear hK K
            try simp only [List.getElem_toArray, List.getElem_cons_succ, List.getElem_cons_zero, Act.put, List.setIfInBounds_toArray, List.set_cons_zero, List.set_cons_succ]
            refine' wpAnyH_take (i := 36) (oi := _) (v := _) rfl (by kernel_rfl) (by kernel_rfl) (by kernel_rfl) (fun _ _ _ h => h) (Or.inl ⟨by kernel_rfl, ?_⟩) (by assumption) ?_
            rotate_left
            · (intro w hSw; (try dsimp only at hSw); go_simp; try (with_reducible rfl))
            try simp only [List.getElem_toArray, List.getElem_cons_succ, List.getElem_cons_zero, Act.put, List.setIfInBounds_toArray, List.set_cons_zero, List.set_cons_succ]
            refine' wpAnyH_take (i := 37) (oi := _) (v := _) rfl (by kernel_rfl) (by kernel_rfl) (by kernel_rfl) (fun _ _ _ h => h) (Or.inl ⟨by kernel_rfl, ?_⟩) (by assumption) ?_
            rotate_left
            · (intro w hSw; (try dsimp only at hSw); go_simp; try (with_reducible rfl))
            try simp only [List.getElem_toArray, List.getElem_cons_succ, List.getElem_cons_zero, Act.put, List.setIfInBounds_toArray, List.set_cons_zero, List.set_cons_succ]
            refine wpAnyH_done (by kernel_rfl) ?_ _
            have BV4 := hid DX39.out
            obtain ⟨V4, hV4⟩ : ∃ V, X39 = V := ⟨_, rfl⟩
            rw [hV4] at BV4 ⊢
            clear hV4
            go_upto_region 21 with fail
            have o0 : V4.cell? ⟨g7, i * 6, none⟩ = some (.int .u32 xm) := HB0.out V4 BV4.out
            have o1 := HB1.out V4 BV4.out
            have o2' := HB2.out V4 BV4.out
            have o3 := HB3.out V4 BV4.out
            have o4 := HB4.out V4 BV4.out
            have o5 := HB5.out V4 BV4.out
            obtain ⟨V5, hV5⟩ : ∃ V, V4.alloc (.cells #[.int .u32 xm, .int .u32 xi, .int .u64 xb, .int .u64 xs, .int .u64 hx, .int .u64 lx] 38) = V := ⟨_, rfl⟩
            obtain ⟨gO, hgO⟩ : ∃ g, V4.heap.size = g := ⟨_, rfl⟩
            have RO5 := hid (show V5.heap[gO]? = some (.cells #[.int .u32 xm, .int .u32 xi, .int .u64 xb, .int .u64 xs, .int .u64 hx, .int .u64 lx] 38 (0, 0)) from by rw [← hV5, ← hgO]; exact World.alloc_heap_new _ _)
            have BV5 := hid (show Below wr.heap.size wr V5 from btr BV4.out (by rw [← hV5]; exact ball _ _))
            go_upto_region 22 with fail
            clear hV5 hgO o0 o1 o2' o3 o4 o5
            obtain ⟨V42, hV42⟩ : ∃ U, V5.drew = U := ⟨_, rfl⟩
            have bV42 := hid (show Below V5.heap.size V5 V42 from by rw [← hV42]; exact bdrew1 _)
            have DV42 := hid (btr BV5.out bV42.out)
            have r43 := hid (row_on RO5.out bV42.out)
            refine wp_region_held_drew (S := (fun U => U.cell? ⟨gO, 0, none⟩ = some (.int .u32 xm) ∧ U.cell? ⟨gO, 1, none⟩ = some (.int .u32 xi) ∧ U.cell? ⟨gO, 2, none⟩ = some (.int .u64 xb) ∧ U.cell? ⟨gO, 3, none⟩ = some (.int .u64 xs) ∧ U.cell? ⟨gO, 4, none⟩ = some (.int .u64 hx) ∧ U.cell? ⟨gO, 5, none⟩ = some (.int .u64 lx) ∧ U.cell? ⟨g2, i * 6, none⟩ = some (.int .u32 xm) ∧ U.cell? ⟨g2, i * 6 + 1, none⟩ = some (.int .u32 xi) ∧ U.cell? ⟨g2, i * 6 + 2, none⟩ = some (.int .u64 xb) ∧ U.cell? ⟨g2, i * 6 + 3, none⟩ = some (.int .u64 xs) ∧ U.cell? ⟨g2, i * 6 + 4, none⟩ = some (.int .u64 hx) ∧ U.cell? ⟨g2, i * 6 + 5, none⟩ = some (.int .u64 lx))) (by kernel_rfl) ?_ (fun hHeld => ?_)
            · (try dsimp only); rw [hV42]; exact ⟨row_cell r43.out 0, row_cell r43.out 1, row_cell r43.out 2, row_cell r43.out 3, row_cell r43.out 4, row_cell r43.out 5, HA0.out _ DV42.out, HA1.out _ DV42.out, HA2.out _ DV42.out, HA3.out _ DV42.out, HA4.out _ DV42.out, HA5.out _ DV42.out⟩
            rw [hV42] at hHeld ⊢
            clear hV42
            refine' wpAnyH_take (i := 0) (oi := _) (v := _) rfl (by kernel_rfl) (by kernel_rfl) (by kernel_rfl) (fun _ _ _ h => h) (Or.inl ⟨by kernel_rfl, ?_⟩) (by assumption) ?_
            rotate_left
            · (intro w hSw; (try dsimp only at hSw); go_simp; try (with_reducible rfl))
            try simp only [List.getElem_toArray, List.getElem_cons_succ, List.getElem_cons_zero, Act.put, List.setIfInBounds_toArray, List.set_cons_zero, List.set_cons_succ]
            refine' wpAnyH_take (i := 1) (oi := _) (v := _) rfl (by kernel_rfl) (by kernel_rfl) (by kernel_rfl) (fun _ _ _ h => h) (Or.inl ⟨by kernel_rfl, ?_⟩) (by assumption) ?_
            rotate_left
            · (intro w hSw; (try dsimp only at hSw); go_simp; try (with_reducible rfl))
            try simp only [List.getElem_toArray, List.getElem_cons_succ, List.getElem_cons_zero, Act.put, List.setIfInBounds_toArray, List.set_cons_zero, List.set_cons_succ]
            refine' wpAnyH_take (i := 2) (oi := _) (v := _) rfl (by kernel_rfl) (by kernel_rfl) (by kernel_rfl) (fun _ _ _ h => h) (Or.inl ⟨by kernel_rfl, ?_⟩) (by assumption) ?_
            rotate_left
            · (intro w hSw; (try dsimp only at hSw); go_simp; try (with_reducible rfl))
            try simp only [List.getElem_toArray, List.getElem_cons_succ, List.getElem_cons_zero, Act.put, List.setIfInBounds_toArray, List.set_cons_zero, List.set_cons_succ]
            refine' wpAnyH_take (i := 3) (oi := _) (v := _) rfl (by kernel_rfl) (by kernel_rfl) (by kernel_rfl) (fun _ _ _ h => h) (Or.inl ⟨by kernel_rfl, ?_⟩) (by assumption) ?_
            rotate_left
            · (intro w hSw; (try dsimp only at hSw); go_simp; try (with_reducible rfl))
            try simp only [List.getElem_toArray, List.getElem_cons_succ, List.getElem_cons_zero, Act.put, List.setIfInBounds_toArray, List.set_cons_zero, List.set_cons_succ]
            refine' wpAnyH_take (i := 4) (oi := _) (v := _) rfl (by kernel_rfl) (by kernel_rfl) (by kernel_rfl) (fun _ _ _ h => h) (Or.inl ⟨by kernel_rfl, ?_⟩) (by assumption) ?_
            rotate_left
            · (intro w hSw; (try dsimp only at hSw); go_simp; try (with_reducible rfl))
            try simp only [List.getElem_toArray, List.getElem_cons_succ, List.getElem_cons_zero, Act.put, List.setIfInBounds_toArray, List.set_cons_zero, List.set_cons_succ]
            refine' wpAnyH_take (i := 5) (oi := _) (v := _) rfl (by kernel_rfl) (by kernel_rfl) (by kernel_rfl) (fun _ _ _ h => h) (Or.inl ⟨by kernel_rfl, ?_⟩) (by assumption) ?_
            rotate_left
            · (intro w hSw; (try dsimp only at hSw); go_simp; try (with_reducible rfl))
            try simp only [List.getElem_toArray, List.getElem_cons_succ, List.getElem_cons_zero, Act.put, List.setIfInBounds_toArray, List.set_cons_zero, List.set_cons_succ]
            refine' wpAnyH_take (i := 6) (oi := _) (v := _) rfl (by kernel_rfl) (by kernel_rfl) (by kernel_rfl) (fun _ _ _ h => h) (Or.inl ⟨by kernel_rfl, ?_⟩) (by assumption) ?_
            rotate_left
            · (intro w hSw; (try dsimp only at hSw); go_simp; try (with_reducible rfl))
            try simp only [List.getElem_toArray, List.getElem_cons_succ, List.getElem_cons_zero, Act.put, List.setIfInBounds_toArray, List.set_cons_zero, List.set_cons_succ]
            refine' wpAnyH_take (i := 7) (oi := _) (v := _) rfl (by kernel_rfl) (by kernel_rfl) (by kernel_rfl) (fun _ _ _ h => h) (Or.inl ⟨by kernel_rfl, ?_⟩) (by assumption) ?_
            rotate_left
            · (intro w hSw; (try dsimp only at hSw); go_simp; try (with_reducible rfl))
            try simp only [List.getElem_toArray, List.getElem_cons_succ, List.getElem_cons_zero, Act.put, List.setIfInBounds_toArray, List.set_cons_zero, List.set_cons_succ]
            refine' wpAnyH_take (i := 8) (oi := _) (v := _) rfl (by kernel_rfl) (by kernel_rfl) (by kernel_rfl) (fun _ _ _ h => h) (Or.inl ⟨by kernel_rfl, ?_⟩) (by assumption) ?_
            rotate_left
            · (intro w hSw; (try dsimp only at hSw); go_simp; try (with_reducible rfl))
            try simp only [List.getElem_toArray, List.getElem_cons_succ, List.getElem_cons_zero, Act.put, List.setIfInBounds_toArray, List.set_cons_zero, List.set_cons_succ]
            refine' wpAnyH_take (i := 9) (oi := _) (v := _) rfl (by kernel_rfl) (by kernel_rfl) (by kernel_rfl) (fun _ _ _ h => h) (Or.inl ⟨by kernel_rfl, ?_⟩) (by assumption) ?_
            rotate_left
            · (intro w hSw; (try dsimp only at hSw); go_simp; try (with_reducible rfl))
            try simp only [List.getElem_toArray, List.getElem_cons_succ, List.getElem_cons_zero, Act.put, List.setIfInBounds_toArray, List.set_cons_zero, List.set_cons_succ]
            refine' wpAnyH_take (i := 10) (oi := _) (v := _) rfl (by kernel_rfl) (by kernel_rfl) (by kernel_rfl) (fun _ _ _ h => h) (Or.inl ⟨by kernel_rfl, ?_⟩) (by assumption) ?_
            rotate_left
            · (intro w hSw; (try dsimp only at hSw); go_simp; try (with_reducible rfl))
            try simp only [List.getElem_toArray, List.getElem_cons_succ, List.getElem_cons_zero, Act.put, List.setIfInBounds_toArray, List.set_cons_zero, List.set_cons_succ]
            refine' wpAnyH_take (i := 11) (oi := _) (v := _) rfl (by kernel_rfl) (by kernel_rfl) (by kernel_rfl) (fun _ _ _ h => h) (Or.inl ⟨by kernel_rfl, ?_⟩) (by assumption) ?_
            rotate_left
            · (intro w hSw; (try dsimp only at hSw); go_simp; try (with_reducible rfl))
            try simp only [List.getElem_toArray, List.getElem_cons_succ, List.getElem_cons_zero, Act.put, List.setIfInBounds_toArray, List.set_cons_zero, List.set_cons_succ]
            refine' wpAnyH_take (i := 12) (oi := _) (v := _) rfl (by kernel_rfl) (by kernel_rfl) (by kernel_rfl) (fun _ _ _ h => h) (Or.inl ⟨by kernel_rfl, ?_⟩) (by assumption) ?_
            rotate_left
            · (intro w hSw; (try dsimp only at hSw); go_simp; try (with_reducible rfl))
            try simp only [List.getElem_toArray, List.getElem_cons_succ, List.getElem_cons_zero, Act.put, List.setIfInBounds_toArray, List.set_cons_zero, List.set_cons_succ]
            refine' wpAnyH_take (i := 13) (oi := _) (v := _) rfl (by kernel_rfl) (by kernel_rfl) (by kernel_rfl) (fun _ _ _ h => h) (Or.inl ⟨by kernel_rfl, ?_⟩) (by assumption) ?_
            rotate_left
            · (intro w hSw; (try dsimp only at hSw); go_simp; try (with_reducible rfl))
            try simp only [List.getElem_toArray, List.getElem_cons_succ, List.getElem_cons_zero, Act.put, List.setIfInBounds_toArray, List.set_cons_zero, List.set_cons_succ]
            refine' wpAnyH_take (i := 14) (oi := _) (v := _) rfl (by kernel_rfl) (by kernel_rfl) (by kernel_rfl) (fun _ _ _ h => h) (Or.inl ⟨by kernel_rfl, ?_⟩) (by assumption) ?_
            rotate_left
            · (intro w hSw; (try dsimp only at hSw); go_simp; try (with_reducible rfl))
            try simp only [List.getElem_toArray, List.getElem_cons_succ, List.getElem_cons_zero, Act.put, List.setIfInBounds_toArray, List.set_cons_zero, List.set_cons_succ]
            refine' wpAnyH_take (i := 15) (oi := _) (v := _) rfl (by kernel_rfl) (by kernel_rfl) (by kernel_rfl) (fun _ _ _ h => h) (Or.inl ⟨by kernel_rfl, ?_⟩) (by assumption) ?_
            rotate_left
            · (intro w hSw; (try dsimp only at hSw); go_simp; try (with_reducible rfl))
            try simp only [List.getElem_toArray, List.getElem_cons_succ, List.getElem_cons_zero, Act.put, List.setIfInBounds_toArray, List.set_cons_zero, List.set_cons_succ]
            refine' wpAnyH_take (i := 16) (oi := _) (v := _) rfl (by kernel_rfl) (by kernel_rfl) (by kernel_rfl) (fun _ _ _ h => h) (Or.inl ⟨by kernel_rfl, ?_⟩) (by assumption) ?_
            rotate_left
            · (intro w hSw; (try dsimp only at hSw); go_simp; try (with_reducible rfl))
            try simp only [List.getElem_toArray, List.getElem_cons_succ, List.getElem_cons_zero, Act.put, List.setIfInBounds_toArray, List.set_cons_zero, List.set_cons_succ]
            refine' wpAnyH_take (i := 17) (oi := _) (v := _) rfl (by kernel_rfl) (by kernel_rfl) (by kernel_rfl) (fun _ _ _ h => h) (Or.inl ⟨by kernel_rfl, ?_⟩) (by assumption) ?_
            rotate_left
            · (intro w hSw; (try dsimp only at hSw); go_simp; try (with_reducible rfl))
            try simp only [List.getElem_toArray, List.getElem_cons_succ, List.getElem_cons_zero, Act.put, List.setIfInBounds_toArray, List.set_cons_zero, List.set_cons_succ]
            refine' wpAnyH_take (i := 18) (oi := _) (v := _) rfl (by kernel_rfl) (by kernel_rfl) (by kernel_rfl) (fun _ _ _ h => h) (Or.inl ⟨by kernel_rfl, ?_⟩) (by assumption) ?_
            rotate_left
            · (intro w hSw; (try dsimp only at hSw); go_simp; try (with_reducible rfl))
            try simp only [List.getElem_toArray, List.getElem_cons_succ, List.getElem_cons_zero, Act.put, List.setIfInBounds_toArray, List.set_cons_zero, List.set_cons_succ]
            refine' wpAnyH_take (i := 19) (oi := _) (v := _) rfl (by kernel_rfl) (by kernel_rfl) (by kernel_rfl) (fun _ _ _ h => h) (Or.inl ⟨by kernel_rfl, ?_⟩) (by assumption) ?_
            rotate_left
            · (intro w hSw; (try dsimp only at hSw); go_simp; try (with_reducible rfl))
            try simp only [List.getElem_toArray, List.getElem_cons_succ, List.getElem_cons_zero, Act.put, List.setIfInBounds_toArray, List.set_cons_zero, List.set_cons_succ]
            refine' wpAnyH_take (i := 20) (oi := _) (v := _) rfl (by kernel_rfl) (by kernel_rfl) (by kernel_rfl) (fun _ _ _ h => h) (Or.inl ⟨by kernel_rfl, ?_⟩) (by assumption) ?_
            rotate_left
            · (intro w hSw; (try dsimp only at hSw); go_simp; try (with_reducible rfl))
            try simp only [List.getElem_toArray, List.getElem_cons_succ, List.getElem_cons_zero, Act.put, List.setIfInBounds_toArray, List.set_cons_zero, List.set_cons_succ]
            refine' wpAnyH_take (i := 21) (oi := _) (v := _) rfl (by kernel_rfl) (by kernel_rfl) (by kernel_rfl) (fun _ _ _ h => h) (Or.inl ⟨by kernel_rfl, ?_⟩) (by assumption) ?_
            rotate_left
            · (intro w hSw; (try dsimp only at hSw); go_simp; try (with_reducible rfl))
            try simp only [List.getElem_toArray, List.getElem_cons_succ, List.getElem_cons_zero, Act.put, List.setIfInBounds_toArray, List.set_cons_zero, List.set_cons_succ]
            refine' wpAnyH_take (i := 22) (oi := _) (v := _) rfl (by kernel_rfl) (by kernel_rfl) (by kernel_rfl) (fun _ _ _ h => h) (Or.inl ⟨by kernel_rfl, ?_⟩) (by assumption) ?_
            rotate_left
            · (intro w hSw; (try dsimp only at hSw); go_simp; try (with_reducible rfl))
            try simp only [List.getElem_toArray, List.getElem_cons_succ, List.getElem_cons_zero, Act.put, List.setIfInBounds_toArray, List.set_cons_zero, List.set_cons_succ]
            refine' wpAnyH_take (i := 23) (oi := _) (v := _) rfl (by kernel_rfl) (by kernel_rfl) (by kernel_rfl) (fun _ _ _ h => h) (Or.inl ⟨by kernel_rfl, ?_⟩) (by assumption) ?_
            rotate_left
            · (intro w hSw; (try dsimp only at hSw); go_simp; try (with_reducible rfl))
            try simp only [List.getElem_toArray, List.getElem_cons_succ, List.getElem_cons_zero, Act.put, List.setIfInBounds_toArray, List.set_cons_zero, List.set_cons_succ]
            refine' wpAnyH_take (i := 24) (oi := _) (v := _) rfl (by kernel_rfl) (by kernel_rfl) (by kernel_rfl) (fun _ _ _ h => h) (Or.inl ⟨by kernel_rfl, ?_⟩) (by assumption) ?_
            rotate_left
            · (intro w hSw; (try dsimp only at hSw); go_simp; try (with_reducible rfl))
            try simp only [List.getElem_toArray, List.getElem_cons_succ, List.getElem_cons_zero, Act.put, List.setIfInBounds_toArray, List.set_cons_zero, List.set_cons_succ]
            refine' wpAnyH_take (i := 25) (oi := _) (v := _) rfl (by kernel_rfl) (by kernel_rfl) (by kernel_rfl) (fun _ _ _ h => h) (Or.inl ⟨by kernel_rfl, ?_⟩) (by assumption) ?_
            rotate_left
            · (intro w hSw; (try dsimp only at hSw); go_simp; try (with_reducible rfl))
            try simp only [List.getElem_toArray, List.getElem_cons_succ, List.getElem_cons_zero, Act.put, List.setIfInBounds_toArray, List.set_cons_zero, List.set_cons_succ]
            refine' wpAnyH_take (i := 26) (oi := _) (v := _) rfl (by kernel_rfl) (by kernel_rfl) (by kernel_rfl) (fun _ _ _ h => h) (Or.inl ⟨by kernel_rfl, ?_⟩) (by assumption) ?_
            rotate_left
            · (intro w hSw; (try dsimp only at hSw); go_simp; try (with_reducible rfl))
            try simp only [List.getElem_toArray, List.getElem_cons_succ, List.getElem_cons_zero, Act.put, List.setIfInBounds_toArray, List.set_cons_zero, List.set_cons_succ]
            refine' wpAnyH_take (i := 27) (oi := _) (v := _) rfl (by kernel_rfl) (by kernel_rfl) (by kernel_rfl) (fun _ _ _ h => h) (Or.inl ⟨by kernel_rfl, ?_⟩) (by assumption) ?_
            rotate_left
            · (intro w hSw; (try dsimp only at hSw); go_simp; try (with_reducible rfl))
            try simp only [List.getElem_toArray, List.getElem_cons_succ, List.getElem_cons_zero, Act.put, List.setIfInBounds_toArray, List.set_cons_zero, List.set_cons_succ]
            refine' wpAnyH_take (i := 28) (oi := _) (v := _) rfl (by kernel_rfl) (by kernel_rfl) (by kernel_rfl) (fun _ _ _ h => h) (Or.inl ⟨by kernel_rfl, ?_⟩) (by assumption) ?_
            rotate_left
            · (intro w hSw; (try dsimp only at hSw); go_simp; try (with_reducible rfl))
            try simp only [List.getElem_toArray, List.getElem_cons_succ, List.getElem_cons_zero, Act.put, List.setIfInBounds_toArray, List.set_cons_zero, List.set_cons_succ]
            refine' wpAnyH_take (i := 29) (oi := _) (v := _) rfl (by kernel_rfl) (by kernel_rfl) (by kernel_rfl) (fun _ _ _ h => h) (Or.inl ⟨by kernel_rfl, ?_⟩) (by assumption) ?_
            rotate_left
            · (intro w hSw; (try dsimp only at hSw); go_simp; try (with_reducible rfl))
            try simp only [List.getElem_toArray, List.getElem_cons_succ, List.getElem_cons_zero, Act.put, List.setIfInBounds_toArray, List.set_cons_zero, List.set_cons_succ]
            refine' wpAnyH_take (i := 30) (oi := _) (v := _) rfl (by kernel_rfl) (by kernel_rfl) (by kernel_rfl) (fun _ _ _ h => h) (Or.inl ⟨by kernel_rfl, ?_⟩) (by assumption) ?_
            rotate_left
            · (intro w hSw; (try dsimp only at hSw); go_simp; try (with_reducible rfl))
            try simp only [List.getElem_toArray, List.getElem_cons_succ, List.getElem_cons_zero, Act.put, List.setIfInBounds_toArray, List.set_cons_zero, List.set_cons_succ]
            refine' wpAnyH_take (i := 31) (oi := _) (v := _) rfl (by kernel_rfl) (by kernel_rfl) (by kernel_rfl) (fun _ _ _ h => h) (Or.inl ⟨by kernel_rfl, ?_⟩) (by assumption) ?_
            rotate_left
            · (intro w hSw; (try dsimp only at hSw); go_simp; try (with_reducible rfl))
            try simp only [List.getElem_toArray, List.getElem_cons_succ, List.getElem_cons_zero, Act.put, List.setIfInBounds_toArray, List.set_cons_zero, List.set_cons_succ]
            refine' wpAnyH_take (i := 32) (oi := _) (v := _) rfl (by kernel_rfl) (by kernel_rfl) (by kernel_rfl) (fun _ _ _ h => h) (Or.inl ⟨by kernel_rfl, ?_⟩) (by assumption) ?_
            rotate_left
            · (intro w hSw; (try dsimp only at hSw); go_simp; try (with_reducible rfl))
            try simp only [List.getElem_toArray, List.getElem_cons_succ, List.getElem_cons_zero, Act.put, List.setIfInBounds_toArray, List.set_cons_zero, List.set_cons_succ]
            refine' wpAnyH_take (i := 33) (oi := _) (v := _) rfl (by kernel_rfl) (by kernel_rfl) (by kernel_rfl) (fun _ _ _ h => h) (Or.inl ⟨by kernel_rfl, ?_⟩) (by assumption) ?_
            rotate_left
            · (intro w hSw; (try dsimp only at hSw); go_simp; try (with_reducible rfl))
            try simp only [List.getElem_toArray, List.getElem_cons_succ, List.getElem_cons_zero, Act.put, List.setIfInBounds_toArray, List.set_cons_zero, List.set_cons_succ]
            refine' wpAnyH_take (i := 34) (oi := _) (v := _) rfl (by kernel_rfl) (by kernel_rfl) (by kernel_rfl) (fun _ _ _ h => h) (Or.inl ⟨by kernel_rfl, ?_⟩) (by assumption) ?_
            rotate_left
            · (intro w hSw; (try dsimp only at hSw); go_simp; try (with_reducible rfl))
            try simp only [List.getElem_toArray, List.getElem_cons_succ, List.getElem_cons_zero, Act.put, List.setIfInBounds_toArray, List.set_cons_zero, List.set_cons_succ]
            refine' wpAnyH_take (i := 35) (oi := _) (v := _) rfl (by kernel_rfl) (by kernel_rfl) (by kernel_rfl) (fun _ _ _ h => h) (Or.inl ⟨by kernel_rfl, ?_⟩) (by assumption) ?_
            rotate_left
            · (intro w hSw; (try dsimp only at hSw); go_simp; try (with_reducible rfl))
            try simp only [List.getElem_toArray, List.getElem_cons_succ, List.getElem_cons_zero, Act.put, List.setIfInBounds_toArray, List.set_cons_zero, List.set_cons_succ]
            refine' wpAnyH_take (i := 36) (oi := _) (v := _) rfl (by kernel_rfl) (by kernel_rfl) (by kernel_rfl) (fun _ _ _ h => h) (Or.inl ⟨by kernel_rfl, ?_⟩) (by assumption) ?_
            rotate_left
            · (intro w hSw; (try dsimp only at hSw); go_simp; try (with_reducible rfl))
            try simp only [List.getElem_toArray, List.getElem_cons_succ, List.getElem_cons_zero, Act.put, List.setIfInBounds_toArray, List.set_cons_zero, List.set_cons_succ]
            refine' wpAnyH_take (i := 37) (oi := _) (v := _) rfl (by kernel_rfl) (by kernel_rfl) (by kernel_rfl) (fun _ _ _ h => h) (Or.inl ⟨by kernel_rfl, ?_⟩) (by assumption) ?_
            rotate_left
            · (intro w hSw; (try dsimp only at hSw); go_simp; try (with_reducible rfl))
            try simp only [List.getElem_toArray, List.getElem_cons_succ, List.getElem_cons_zero, Act.put, List.setIfInBounds_toArray, List.set_cons_zero, List.set_cons_succ]
            refine' wpAnyH_take (i := 38) (oi := _) (v := _) rfl (by kernel_rfl) (by kernel_rfl) (by kernel_rfl) (fun _ _ _ h => h) (Or.inl ⟨by kernel_rfl, ?_⟩) (by assumption) ?_
            rotate_left
            · (intro w hSw; (try dsimp only at hSw); go_simp; try (with_reducible rfl))
            try simp only [List.getElem_toArray, List.getElem_cons_succ, List.getElem_cons_zero, Act.put, List.setIfInBounds_toArray, List.set_cons_zero, List.set_cons_succ]
            refine' wpAnyH_take (i := 39) (oi := _) (v := _) rfl (by kernel_rfl) (by kernel_rfl) (by kernel_rfl) (fun _ _ _ h => h) (Or.inl ⟨by kernel_rfl, ?_⟩) (by assumption) ?_
            rotate_left
            · (intro w hSw; (try dsimp only at hSw); go_simp; try (with_reducible rfl))
            try simp only [List.getElem_toArray, List.getElem_cons_succ, List.getElem_cons_zero, Act.put, List.setIfInBounds_toArray, List.set_cons_zero, List.set_cons_succ]
            refine' wpAnyH_take (i := 40) (oi := _) (v := _) rfl (by kernel_rfl) (by kernel_rfl) (by kernel_rfl) (fun _ _ _ h => h) (Or.inl ⟨by kernel_rfl, ?_⟩) (by assumption) ?_
            rotate_left
            · (intro w hSw; (try dsimp only at hSw); go_simp; try (with_reducible rfl))
            try simp only [List.getElem_toArray, List.getElem_cons_succ, List.getElem_cons_zero, Act.put, List.setIfInBounds_toArray, List.set_cons_zero, List.set_cons_succ]
            refine' wpAnyH_take (i := 41) (oi := _) (v := _) rfl (by kernel_rfl) (by kernel_rfl) (by kernel_rfl) (fun _ _ _ h => h) (Or.inl ⟨by kernel_rfl, ?_⟩) (by assumption) ?_
            rotate_left
            · (intro w hSw; (try dsimp only at hSw); go_simp; try (with_reducible rfl))
            try simp only [List.getElem_toArray, List.getElem_cons_succ, List.getElem_cons_zero, Act.put, List.setIfInBounds_toArray, List.set_cons_zero, List.set_cons_succ]
            refine' wpAnyH_take (i := 42) (oi := _) (v := _) rfl (by kernel_rfl) (by kernel_rfl) (by kernel_rfl) (fun _ _ _ h => h) (Or.inl ⟨by kernel_rfl, ?_⟩) (by assumption) ?_
            rotate_left
            · (intro w hSw; (try dsimp only at hSw); go_simp; try (with_reducible rfl))
            try simp only [List.getElem_toArray, List.getElem_cons_succ, List.getElem_cons_zero, Act.put, List.setIfInBounds_toArray, List.set_cons_zero, List.set_cons_succ]
            refine' wpAnyH_take (i := 43) (oi := _) (v := _) rfl (by kernel_rfl) (by kernel_rfl) (by kernel_rfl) (fun _ _ _ h => h) (Or.inl ⟨by kernel_rfl, ?_⟩) (by assumption) ?_
            rotate_left
            · (intro w hSw; (try dsimp only at hSw); go_simp; try (with_reducible rfl))
            try simp only [List.getElem_toArray, List.getElem_cons_succ, List.getElem_cons_zero, Act.put, List.setIfInBounds_toArray, List.set_cons_zero, List.set_cons_succ]
            refine' wpAnyH_take (i := 44) (oi := _) (v := _) rfl (by kernel_rfl) (by kernel_rfl) (by kernel_rfl) (fun _ _ _ h => h) (Or.inl ⟨by kernel_rfl, ?_⟩) (by assumption) ?_
            rotate_left
            · (intro w hSw; (try dsimp only at hSw); go_simp; try (with_reducible rfl))
            try simp only [List.getElem_toArray, List.getElem_cons_succ, List.getElem_cons_zero, Act.put, List.setIfInBounds_toArray, List.set_cons_zero, List.set_cons_succ]
            refine' wpAnyH_take (i := 45) (oi := _) (v := _) rfl (by kernel_rfl) (by kernel_rfl) (by kernel_rfl) (fun _ _ _ h => h) (Or.inl ⟨by kernel_rfl, ?_⟩) (by assumption) ?_
            rotate_left
            · (intro w hSw; (try dsimp only at hSw); go_simp; try (with_reducible rfl))
            try simp only [List.getElem_toArray, List.getElem_cons_succ, List.getElem_cons_zero, Act.put, List.setIfInBounds_toArray, List.set_cons_zero, List.set_cons_succ]
            refine wpAnyH_ready (rs := [46]) (by kernel_rfl) (by simp) ?_
            refine (AllReadyH.cons (o := _) rfl (fun K hK => ?_) AllReadyH.nil)
            go_simp
            go_at_call 10
            with_reducible refine (CC.out V42).mono ?_
            rintro e X44 ⟨rfl, cX44⟩
            have bX44 := hid cX44
            clear cX44
            have DX44 := hid (btr DV42.out bX44.out)
            have r45 := hid (row_on r43.out bX44.out)
            (try go_wp2_with fail)
            refine hK.out _ _ ?_ (fun hHeld => ?_)
            · (try dsimp only); exact ⟨row_cell r45.out 0, row_cell r45.out 1, row_cell r45.out 2, row_cell r45.out 3, row_cell r45.out 4, row_cell r45.out 5, HA0.out _ DX44.out, HA1.out _ DX44.out, HA2.out _ DX44.out, HA3.out _ DX44.out, HA4.out _ DX44.out, HA5.out _ DX44.out⟩
            clear hK K
            try simp only [List.getElem_toArray, List.getElem_cons_succ, List.getElem_cons_zero, Act.put, List.setIfInBounds_toArray, List.set_cons_zero, List.set_cons_succ]
            refine' wpAnyH_take (i := 47) (oi := _) (v := _) rfl (by kernel_rfl) (by kernel_rfl) (by kernel_rfl) (fun _ _ _ h => h) (Or.inl ⟨by kernel_rfl, ?_⟩) (by assumption) ?_
            rotate_left
            · (intro w hSw; (try dsimp only at hSw); go_simp; try (with_reducible rfl))
            try simp only [List.getElem_toArray, List.getElem_cons_succ, List.getElem_cons_zero, Act.put, List.setIfInBounds_toArray, List.set_cons_zero, List.set_cons_succ]
            refine' wpAnyH_take (i := 48) (oi := _) (v := _) rfl (by kernel_rfl) (by kernel_rfl) (by kernel_rfl) (fun _ _ _ h => h) (Or.inl ⟨by kernel_rfl, ?_⟩) (by assumption) ?_
            rotate_left
            · (intro w hSw; (try dsimp only at hSw); go_simp; try (with_reducible rfl))
            try simp only [List.getElem_toArray, List.getElem_cons_succ, List.getElem_cons_zero, Act.put, List.setIfInBounds_toArray, List.set_cons_zero, List.set_cons_succ]
            refine wpAnyH_done (by kernel_rfl) ?_ _
            have BV6 := hid DX44.out
            (try go_wp2)
            go_roundw
            case rel => exact ⟨i + 1, HLT.out, by go_num, hid (btr BW.out BV6.out)⟩
            case measure => have := HLT.out; simp [intOf]; omega
          · obtain rfl : i = n2 := by omega
            have iF : decide ((i : Int) < (i : Int)) = false := by simp
            have BX := hid (btr BALL.out BW.out)
            go_wp2
            go_ret
            exact ⟨rfl, BX.out⟩
      · have y1 : (er4 == 0) = false := by simpa using z4
        have y2 : (er4 != 0) = true := by simpa using z4
        subst z3
        have e2 : er2 = er4 := by rw [N1.out, if_pos rfl]
        have e7 : er7 = er4 := by rw [N2.out, if_neg z4]
        subst e2 e7
        clear z4
        go_wp2
        go_ret
        exact ⟨rfl, BALL.out⟩
    · have y1 : (er3 == 0) = false := by simpa using z3
      have y2 : (er3 != 0) = true := by simpa using z3
      have e2 : er2 = er3 := by rw [N1.out, if_neg z3]
      subst e2
      have e7 : er7 ≠ 0 := by
        rw [N2.out]
        split
        · exact z3
        · assumption
      have y3 : (er7 == 0) = false := by simpa using e7
      have y4 : (er7 != 0) = true := by simpa using e7
      clear z3 e7
      go_wp2
      go_ret
      exact ⟨rfl, BALL.out⟩
  have KEY := hid KEY
  clear ha C1 HZ HOK HN CN CL
  by_cases c1 : cut < 0
  · have x1 : decide (cut < 0) = true := decide_eq_true c1
    clear c1
    go_wp2
  · have x1 : decide (cut < 0) = false := decide_eq_false c1
    by_cases c2 : (n : Int) < cut
    · have x2 : decide ((n : Int) < cut) = true := decide_eq_true c2
      clear c1 c2
      go_wp2
    · obtain ⟨c, rfl⟩ : ∃ c : Nat, cut = (c : Int) := ⟨cut.toNat, by omega⟩
      have hcn : c ≤ n := by omega
      have x2 : decide (n < c) = false := decide_eq_false (by omega)
      clear c1 c2 hi
      go_wp2
end Go.Proofs.YtlhbgaiiehljpaaGreat.Ac
