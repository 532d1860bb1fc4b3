/-
  PzE
-/
import Derived.Test.YtlhbgaiiehljpaaGreatPzD
namespace Go.Proofs.YtlhbgaiiehljpaaGreat.Ac
open Go.RowKit Go.Deep Go.Maps MonM Go.Proofs.YtlhbgaiiehljpaaGreat
set_option linter.unusedVariables false
set_option linter.unusedSimpArgs false
set_option maxHeartbeats 8000000
set_option maxRecDepth 100000
attribute [local go_sem ↓] Go.wp_at_zero Go.wp_at_succ
theorem step_app0 {w : World} {ops : Array Oper} {oo : Oper} {a : Act} {K : Act → World → Prop} {Q : Exit → Act → World → Prop} {E : Prop} (hgd : oo.guard = none) (s x : Operand) (t e : TypeId) (z : Value) (size bytes : Nat)
    (ho : oo.op = .call { callee := .builtin .append, args := #[s, x], argTypes := #[t, t] }) (ht : Tryz.prog.underlying t = some (.slice e)) (hinf : (Tryz.prog.info? e).map (fun i => (i.zero, i.size, i.bytes)) = some (some z, size, bytes)) (hzs : z.cells.size = size) (hsz : 0 < size)
    (base : Nat) (v : Value) (n : Nat) (ys : List Value) (hs : a.eval s = v) (hown : w.ownsRow base e size v n ys)
    (q : Option Addr) (hx : a.eval x = .slice q 0 0) (h63 : n ≤ maxLen) (hbytes : n * bytes ≤ 140737488355328) (hbase : base ≤ w.heap.size)
    (h : ∀ v' w', w'.ownsRow base e size v' n ys → w.grownBy w' v.ownBlock → K (a.put oo.dst v') w') : if Region.wanted oo (yielded ops a.tmps) = true then Oper.wp Tryz.prog oo a w K Q else E := by
  cases q with
  | none =>
    have hw : Region.wanted oo (yielded ops a.tmps) = true := by simp [Region.wanted, hgd]
    rw [if_pos hw]
    obtain ⟨i0, hi, hz0, hz1, hz2⟩ := info_parts hinf
    have hrun := run_append_owned_none (P := Tryz.prog) (w := w) base t oo.type e i0 size ht hi v n ys hown
    unfold Oper.wp
    simp [execOp, ho, resolve, invoke, builtin, hs, hx, hrun, Result.andThen]
    exact h v w hown ⟨rfl, rfl, rfl, Nat.le_refl _, fun _ _ _ => rfl⟩
  | some ad =>
    exact step_app hgd s x t e z size bytes ho ht hinf hzs hsz base v n ys hs hown ad 0 0 [] hx (by simp) (fun j u hu => by simp at hu) (fun u hu => by cases hu) h63 hbytes hbase (fun v' w' h1 h2 => h v' w' (by simpa using h1) h2)
theorem parts_none (cut : Int) (q : Option Addr) (w : World) (hi : -9223372036854775808 ≤ cut ∧ cut < 9223372036854775808) :
    Calls Tryz.prog 4 #[.slice q 0 0, .int .i64 cut] w fun e w' => e = .returned (.bool true) ∧ Below w.heap.size w w' := by
  have CL := hid (lives_ok w)
  have CN := hid (fun (U : World) (p : Option Addr) (k : Nat) => netted_q (U := U) (p := p) (k := k) (m := 0) (x := []) (fun j hj => by simp at hj) (fun y hy => by cases hy) rfl (by decide))
  go_enter Tryz.func4, Tryz.ntmps4
  go_upto_region 3 with (go_at_call 5; with_reducible refine CL.out.mono ?_; rintro e w1 ⟨rfl, h1⟩; have B1 := hid h1; clear h1)
  have C1 := hid (CN.out w1 q 0)
  rename_i Ka ha Kb hb2
  have KEY : ∀ (v20 v21 v22 v23 v24 v25 v26 v27 : Value), Ka { tmps := #[.slice q 0 0, .int .i64 0, undef, undef, .bool false, undef, undef, undef, undef, undef, undef, undef, undef, undef, undef, undef, undef, undef, .bool true, .bool false, v20, v21, v22, v23, v24, v25, v26, v27, undef, undef, undef, undef, undef, undef, undef, undef, undef, undef, undef, undef, undef, undef, undef, undef, undef, undef, undef, undef, undef, undef, undef, undef, undef, undef, undef, undef, undef, undef, undef, undef, undef, undef, undef, undef, undef, undef, undef, undef, undef, undef, undef, undef, undef, undef, undef, undef, undef, undef, undef, undef, undef, undef, undef, undef, undef, undef, undef, undef, undef, undef, undef, undef, undef, undef, undef, undef, undef, undef, undef, undef, undef, undef, undef, undef, undef, undef, undef, undef, undef, undef, undef, undef, undef, undef, undef, undef, undef, undef, undef, undef, undef, undef, undef, undef, undef, undef, undef, undef, undef, undef, undef, undef, undef, undef, undef, undef, undef, undef, undef, undef, undef, undef, undef, undef, undef, undef, undef, undef, undef, undef, undef, undef, undef, undef, undef, undef, undef, undef, undef, undef, undef, undef, undef, undef, undef, undef, undef, undef, undef, undef, undef, undef, undef, undef, undef, undef, undef, undef, undef, undef, undef, undef, undef, undef, undef, undef, undef, undef, undef, undef, undef, undef, undef, undef, undef, undef, undef, undef, undef, undef, undef, undef, undef, undef, undef, undef, undef, undef, undef, undef, undef], defers := [] } w1 := by
    intro v20 v21 v22 v23 v24 v25 v26 v27
    refine ha _ _ ?_
    clear ha hb2 hi CL
    go_upto_region 5 with fail
    go_upto_region 6 with (go_at_call 6; refine C1.out.mono ?_; rintro e w2 ⟨q2, n2, d2, er2, rfl, h1, h2⟩; have B2 := hid h2; obtain ⟨p1, p2⟩ := h1; have p1 : er2 = 0 := p1; subst p1; obtain ⟨p3, _⟩ := p2 rfl; simp only [List.length_nil, Nat.mul_zero, Nat.le_zero_eq] at p3; subst p3; clear h2)
    have C2 := hid (CN.out w2 q 0)
    go_upto_region 7 with (go_at_call 6; refine C2.out.mono ?_; rintro e w3 ⟨q3, n3, d3, er3, rfl, h1, h2⟩; have B3 := hid h2; obtain ⟨p1, p2⟩ := h1; have p1 : er3 = 0 := p1; subst p1; obtain ⟨p3, _⟩ := p2 rfl; simp only [List.length_nil, Nat.mul_zero, Nat.le_zero_eq] at p3; subst p3; clear h2)
    have C3 := hid (CN.out w3 q 0)
    go_upto_region 8 with (go_at_call 6; refine C3.out.mono ?_; rintro e w4 ⟨q4, n4, d4, er4, rfl, h1, h2⟩; have B4 := hid h2; obtain ⟨p1, p2⟩ := h1; have p1 : er4 = 0 := p1; subst p1; obtain ⟨p3, _⟩ := p2 rfl; simp only [List.length_nil, Nat.mul_zero, Nat.le_zero_eq] at p3; subst p3; clear h2)
    have BRF := hid (Below.refl w4.heap.size w4)
    clear C1 C2 C3
    obtain ⟨V1, hV1⟩ : ∃ U, w4.drew = U := ⟨_, rfl⟩
    have bV1 := hid (show Below w4.heap.size w4 V1 from by rw [← hV1]; exact bdrew1 _)
    have DV1 := hid (btr BRF.out bV1.out)
    refine wp_region_held_drew (S := (fun _ => True)) (by kernel_rfl) ?_ (fun hHeld => ?_)
    · exact trivial
    rw [hV1]
    clear hV1
    refine' wpAnyH_take (i := 1) (oi := _) (v := _) rfl (by kernel_rfl) (by kernel_rfl) (by kernel_rfl) (fun _ _ _ h => h) (Or.inl ⟨by kernel_rfl, ?_⟩) (by assumption) ?_
    rotate_left
    · (intro w hSw; (try dsimp only at hSw); go_simp; try (with_reducible rfl))
    try simp only [List.getElem_toArray, List.getElem_cons_succ, List.getElem_cons_zero, Act.put, List.setIfInBounds_toArray, List.set_cons_zero, List.set_cons_succ]
    refine' wpAnyH_take (i := 2) (oi := _) (v := _) rfl (by kernel_rfl) (by kernel_rfl) (by kernel_rfl) (fun _ _ _ h => h) (Or.inl ⟨by kernel_rfl, ?_⟩) (by assumption) ?_
    rotate_left
    · (intro w hSw; (try dsimp only at hSw); go_simp; try (with_reducible rfl))
    try simp only [List.getElem_toArray, List.getElem_cons_succ, List.getElem_cons_zero, Act.put, List.setIfInBounds_toArray, List.set_cons_zero, List.set_cons_succ]
    refine' wpAnyH_take (i := 3) (oi := _) (v := _) rfl (by kernel_rfl) (by kernel_rfl) (by kernel_rfl) (fun _ _ _ h => h) (Or.inl ⟨by kernel_rfl, ?_⟩) (by assumption) ?_
    rotate_left
    · (intro w hSw; (try dsimp only at hSw); go_simp; try (with_reducible rfl))
    try simp only [List.getElem_toArray, List.getElem_cons_succ, List.getElem_cons_zero, Act.put, List.setIfInBounds_toArray, List.set_cons_zero, List.set_cons_succ]
    refine' wpAnyH_take (i := 5) (oi := _) (v := _) rfl (by kernel_rfl) (by kernel_rfl) (by kernel_rfl) (fun _ _ _ h => h) (Or.inl ⟨by kernel_rfl, ?_⟩) (by assumption) ?_
    rotate_left
    · (intro w hSw; (try dsimp only at hSw); go_simp; try (with_reducible rfl))
    try simp only [List.getElem_toArray, List.getElem_cons_succ, List.getElem_cons_zero, Act.put, List.setIfInBounds_toArray, List.set_cons_zero, List.set_cons_succ]
    refine' wpAnyH_take (i := 6) (oi := _) (v := _) rfl (by kernel_rfl) (by kernel_rfl) (by kernel_rfl) (fun _ _ _ h => h) (Or.inl ⟨by kernel_rfl, ?_⟩) (by assumption) ?_
    rotate_left
    · (intro w hSw; (try dsimp only at hSw); go_simp; try (with_reducible rfl))
    try simp only [List.getElem_toArray, List.getElem_cons_succ, List.getElem_cons_zero, Act.put, List.setIfInBounds_toArray, List.set_cons_zero, List.set_cons_succ]
    refine' wpAnyH_take (i := 7) (oi := _) (v := _) rfl (by kernel_rfl) (by kernel_rfl) (by kernel_rfl) (fun _ _ _ h => h) (Or.inl ⟨by kernel_rfl, ?_⟩) (by assumption) ?_
    rotate_left
    · (intro w hSw; (try dsimp only at hSw); go_simp; try (with_reducible rfl))
    try simp only [List.getElem_toArray, List.getElem_cons_succ, List.getElem_cons_zero, Act.put, List.setIfInBounds_toArray, List.set_cons_zero, List.set_cons_succ]
    refine wpAnyH_ready (rs := [0]) (by kernel_rfl) (by simp) ?_
    refine (AllReadyH.cons (o := _) rfl (fun K hK => ?_) AllReadyH.nil)
    go_simp
    obtain ⟨X2, hX2⟩ : ∃ X, V1.alloc (.cells #[] 59) = X := ⟨_, rfl⟩
    have bX2 := hid (show Below V1.heap.size V1 X2 from by rw [← hX2]; exact ball _ _)
    have zX2 : X2.heap[V1.heap.size]? = some (.cells #[] 59 (0, 0)) := by rw [← hX2]; exact World.alloc_heap_new _ _
    have DX2 := hid (btr DV1.out bX2.out)
    obtain ⟨g3, hg3⟩ : ∃ g, V1.heap.size = g := ⟨_, rfl⟩
    have yg3 := hid (Nat.le_trans DV1.out.size (Nat.le_refl _))
    rw [hg3] at zX2 yg3
    have ZX2 := hid zX2
    rw [hX2, hg3]
    clear hX2 hg3 zX2
    refine hK.out _ _ ?_ (fun hHeld => ?_)
    · exact trivial
    clear hK K
    try simp only [List.getElem_toArray, List.getElem_cons_succ, List.getElem_cons_zero, Act.put, List.setIfInBounds_toArray, List.set_cons_zero, List.set_cons_succ]
    refine wpAnyH_ready (rs := [4]) (by kernel_rfl) (by simp) ?_
    refine (AllReadyH.cons (o := _) rfl (fun K hK => ?_) AllReadyH.nil)
    refine step_app0 (by rfl) (.tmp 47) (.tmp 50) 22 59 _ 6 40 (by rfl) Tryz.underlying22 infoD40 rfl (by decide) w4.heap.size _ 0 [] (by rfl) (own_empty (size := 6) ZX2.out yg3.out) q (by rfl) (by decide) (by decide) DX2.out.size (fun v5 w5 hown hgrow => ?_)
    obtain ⟨q5, d5, rfl⟩ := own_form hown
    have O5 := hid hown
    have B5 := hid (show Below w4.heap.size w4 w5 from DX2.out.grown hgrow DX2.out.size (fun j hj => (own_lo (own_empty (size := 6) ZX2.out yg3.out) hj).1))
    clear hown hgrow
    refine hK.out _ _ ?_ (fun hHeld => ?_)
    · exact trivial
    clear hK K
    try simp only [List.getElem_toArray, List.getElem_cons_succ, List.getElem_cons_zero, Act.put, List.setIfInBounds_toArray, List.set_cons_zero, List.set_cons_succ]
    refine wpAnyH_ready (rs := [8]) (by kernel_rfl) (by simp) ?_
    refine (AllReadyH.cons (o := _) rfl (fun K hK => ?_) AllReadyH.nil)
    refine step_app0 (by rfl) (.tmp 51) (.tmp 54) 22 59 _ 6 40 (by rfl) Tryz.underlying22 infoD40 rfl (by decide) w4.heap.size _ 0 [] (by rfl) O5.out q (by rfl) (by decide) (by decide) B5.out.size (fun v6 w6 hown hgrow => ?_)
    obtain ⟨q6, d6, rfl⟩ := own_form hown
    have O6 := hid hown
    have B6 := hid (show Below w4.heap.size w4 w6 from B5.out.grown hgrow B5.out.size (fun j hj => (own_lo O5.out hj).1))
    clear hown hgrow
    refine hK.out _ _ ?_ (fun hHeld => ?_)
    · exact trivial
    clear hK K
    try simp only [List.getElem_toArray, List.getElem_cons_succ, List.getElem_cons_zero, Act.put, List.setIfInBounds_toArray, List.set_cons_zero, List.set_cons_succ]
    refine' wpAnyH_take (i := 9) (oi := _) (v := _) rfl (by kernel_rfl) (by kernel_rfl) (by kernel_rfl) (fun _ _ _ h => h) (Or.inl ⟨by kernel_rfl, ?_⟩) (by assumption) ?_
    rotate_left
    · (intro w hSw; (try dsimp only at hSw); go_simp; try (with_reducible rfl))
    try simp only [List.getElem_toArray, List.getElem_cons_succ, List.getElem_cons_zero, Act.put, List.setIfInBounds_toArray, List.set_cons_zero, List.set_cons_succ]
    refine wpAnyH_done (by kernel_rfl) ?_ _
    go_upto_region 9 with fail
    have C9 := hid (CN.out w6 q6 d6)
    go_upto_region 10 with (go_at_call 6; refine C9.out.mono ?_; rintro e w7 ⟨q7, n7, d7, er7, rfl, h1, h2⟩; have B7 := hid h2; obtain ⟨p1, p2⟩ := h1; have p1 : er7 = 0 := p1; subst p1; obtain ⟨p3, _⟩ := p2 rfl; simp only [List.length_nil, Nat.mul_zero, Nat.le_zero_eq] at p3; subst p3; clear h2)
    have BALL := hid (btr (btr (btr (btr (btr B1.out B2.out) B3.out) B4.out) B6.out) B7.out)
    clear C9 CN B1 B2 B3 B4 B6 B7
    go_upto_region 15 with fail
    go_loopw [14] (fun iv wr => iv = .int .i64 0 ∧ wr = w7) (fun iv _ => 0)
    case atStart => exact ⟨rfl, rfl⟩
    case round =>
      obtain ⟨rfl, hw⟩ := hrel
      subst hw
      go_wp2
      go_ret
      exact ⟨rfl, BALL.out⟩
  have KEY := hid KEY
  clear ha C1 CN CL
  by_cases c1 : cut < 0
  · have x1 : decide (cut < 0) = true := decide_eq_true c1
    clear c1
    go_wp2
    exact KEY.out _ _ _ _ _ _ _ _
  · have x1 : decide (cut < 0) = false := decide_eq_false c1
    by_cases c2 : 0 < cut
    · have x2 : decide (0 < cut) = true := decide_eq_true c2
      clear c1 c2
      go_wp2
      exact KEY.out _ _ _ _ _ _ _ _
    · obtain rfl : cut = 0 := by omega
      clear c1 c2 hi x1
      go_wp2
      exact KEY.out _ _ _ _ _ _ _ _
theorem parts_any (l : List Dl) (cut : Int) (q : Option Addr) (cap : Nat) (w : World) (hz : Lz w q l) (hok : ∀ x ∈ l, x.ok) (hb : l.length ≤ 1048576) (hc : l.length ≤ cap) (hc2 : cap ≤ maxLen) (hi : -9223372036854775808 ≤ cut ∧ cut < 9223372036854775808) (hs : 0 < cap → ∃ b off, q = some ⟨b, off, none⟩) :
    Calls Tryz.prog 4 #[.slice q l.length cap, .int .i64 cut] w fun e w' => e = .returned (.bool true) ∧ Below w.heap.size w w' := by
  by_cases h0 : cap = 0
  · subst h0
    have e : l = [] := List.length_eq_zero_iff.1 (by omega)
    subst e
    exact parts_none cut q w hi
  · obtain ⟨b, off, rfl⟩ := hs (by omega)
    exact parts_some l cut b off cap l.length w hz hok rfl hb hc hc2 hi
end Go.Proofs.YtlhbgaiiehljpaaGreat.Ac
