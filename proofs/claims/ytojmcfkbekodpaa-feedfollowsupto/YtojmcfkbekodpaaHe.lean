/-
  FhH
-/
import Derived.Test.YtojmcfkbekodpaaHc
import Derived.Deep.LoopGhost
import Derived.Test.YtojmcfkbekodpaaHd
namespace Go.Proofs.Ytojmcfkbekodpaa.Fd
open Go.RowKit Go.Deep Go.Maps
set_option linter.unusedVariables false
set_option linter.unusedSimpArgs false
set_option maxHeartbeats 8000000
set_option maxRecDepth 100000
theorem del_facts {w : World} {M n : Nat} {D : DataW Unit} {L : List Dm} (h1 : w.ownsMap Try.prog 33 rdm M n D) (h2 : ∀ k, has D (.int .u64 k) = L.any (fun d => d.sq == k)) (h3 : ∀ d ∈ L, ∀ z, D.atKey (.int .u64 d.sq) z = dd d) (h4 : size D = L.length) (hnd : L.Pairwise (fun x y => x.sq ≠ y.sq)) (k : Int) :
    (∀ j, has (D.del (.int .u64 k)) (.int .u64 j) = (L.filter (fun d => d.sq != k)).any (fun d => d.sq == j)) ∧ (∀ d ∈ L.filter (fun d => d.sq != k), ∀ z, (D.del (.int .u64 k)).atKey (.int .u64 d.sq) z = dd d) ∧ size (D.del (.int .u64 k)) = (L.filter (fun d => d.sq != k)).length := by
  refine ⟨?_, ?_, ?_⟩
  · intro j
    by_cases e : j = k
    · subst e
      rw [has_del_same]
      symm
      rw [List.any_eq_false]
      intro x hx
      have := (List.mem_filter.1 hx).2
      simpa using this
    · rw [has_del_other (by simp [e]), h2, List.any_filter]
      congr 1
      funext d
      by_cases e2 : d.sq = j
      · simp [e2, e]
      · simp [e2]
  · intro y hy z
    obtain ⟨y1, y2⟩ := List.mem_filter.1 hy
    have ne : y.sq ≠ k := by simpa using y2
    rw [atKey_del_other (by simp [ne])]
    exact h3 y y1 z
  · have sd := size_del (k := .int .u64 k) (h1.tidy lawU)
    rw [h2, h4] at sd
    have key : ∀ l : List Dm, l.Pairwise (fun x y => x.sq ≠ y.sq) → (l.filter (fun d => d.sq != k)).length + (if l.any (fun d => d.sq == k) = true then 1 else 0) = l.length := by
      intro l
      induction l with
      | nil => intro _; rfl
      | cons x l ih =>
        intro hp
        rw [List.pairwise_cons] at hp
        have := ih hp.2
        by_cases e : x.sq = k
        · have hno : l.any (fun d => d.sq == k) = false := by
            rw [List.any_eq_false]
            intro y hy hc
            exact hp.1 y hy (by rw [e]; exact (by simpa using hc : y.sq = k).symm)
          rw [hno] at this
          simp only [Bool.false_eq_true, if_false, Nat.add_zero] at this
          simp [e, this]
        · have b1 : (x.sq == k) = false := by simpa using e
          simp only [List.filter_cons, List.any_cons, b1, Bool.false_or, List.length_cons]
          have b2 : (x.sq != k) = true := by simpa using e
          rw [if_pos b2, List.length_cons]
          omega
    have := key L hnd
    omega
/-- a way through what is held; lf: what is still to come. -/
def Hr (w : World) (M r n : Nat) (L : List Dm) (lf : Int → Bool) (cnt : Nat) : Prop :=
  ∃ (D : DataW Unit) (left : Lit → Bool), w.ranges Try.prog 33 rdm M r n D left cnt ∧ (∀ k, left (.int .u64 k) = lf k) ∧ (∀ k, lf k = true → L.any (fun d => d.sq == k) = true) ∧ (∀ k, has D (.int .u64 k) = L.any (fun d => d.sq == k)) ∧ (∀ d ∈ L, ∀ z, D.atKey (.int .u64 d.sq) z = dd d) ∧ size D = L.length
theorem Hr.hm {w : World} {M r n cnt : Nat} {L : List Dm} {lf : Int → Bool} (h : Hr w M r n L lf cnt) : Hm w M n L := by
  obtain ⟨D, left, h1, h2, h3, h4, h5, h6⟩ := h
  exact ⟨D, h1.owns, h4, h5, h6⟩
theorem Hr.kept {w w' : World} {F : Nat → Prop} {M r n cnt : Nat} {L : List Dm} {lf : Int → Bool} (h : Hr w M r n L lf cnt) (hk : Kp F w w') (hM : ¬ F M) (hr : ¬ F r) : Hr w' M r n L lf cnt := by
  obtain ⟨D, left, ⟨es, clock, since, seen, c0, a1, a2, a3, a4, a5, a6⟩, h2⟩ := h
  exact ⟨D, left, ⟨es, clock, since, seen, c0, (hk.obj M (row_lt a1) hM).trans a1, a2, a3, a4, (hk.obj r (row_lt a5) hr).trans a5, a6⟩, h2⟩
theorem Hr.on {w w' : World} {M r n cnt : Nat} {L : List Dm} {lf : Int → Bool} (h : Hr w M r n L lf cnt) (hb : Below w.heap.size w w') : Hr w' M r n L lf cnt := h.kept (Kp.of (fun _ => False) hb) _root_.id _root_.id
theorem Hm.range {w : World} {M n : Nat} {L : List Dm} (h : Hm w M n L) : ∃ w' cnt, (Instr.range 103 (.map (some M))).run Try.prog w = .ok (.pointer (some ⟨w.heap.size, 0, none⟩)) w' ∧ Hr w' M w.heap.size n L (hasN L) cnt ∧ Below w.heap.size w w' := by
  obtain ⟨D, h1, h2, h3, h4⟩ := h
  obtain ⟨w', hr, h5, h6, h7⟩ := h1.range lawU Try.underlying103
  exact ⟨w', _, hr, ⟨D, _, h5, fun k => h2 k, fun k hk => hk, h2, h3, h4⟩, ⟨h6.os, h6.tape, h6.output, h6.size, fun i hi => h6.block i hi (by simp)⟩⟩
theorem lf_cut (left : Lit → Bool) (lf : Int → Bool) (h : ∀ k, left (.int .u64 k) = lf k) (x : Int) (k : Int) : (left (.int .u64 k) && !(Lit.int .u64 k).sameKey (.int .u64 x)) = (lf k && !(k == x)) := by
  rw [h k]
  by_cases e : k = x
  · subst e; simp [Lit.sameKey]
  · have : (k == x) = false := by simpa using e
    rw [this]
    simp [e, Lit.sameKey]
theorem Hr.next {w : World} {M r n cnt : Nat} {L : List Dm} {lf : Int → Bool} (h : Hr w M r n L lf cnt) :
    ((∀ k, lf k = false) ∧ ∀ ty, (Instr.next (.pointer (some ⟨r, 0, none⟩)) false ty).run Try.prog w = .ok (.tuple #[.bool false]) w) ∨
    ∃ d w' cnt', d ∈ L ∧ lf d.sq = true ∧ (∀ ty, (Instr.next (.pointer (some ⟨r, 0, none⟩)) false ty).run Try.prog w = .ok (.tuple #[.bool true, .int .u64 d.sq, .agg #[.int .u64 d.sq, .int .i64 d.kd, .int .i64 d.sd, .int .i64 d.pr, .int .u64 d.qt, .int .i64 d.ct]]) w') ∧ (Instr.entry (.pointer (some ⟨r, 0, none⟩))).run Try.prog w' = .ok (.tuple #[.int .u64 d.sq, .agg #[.int .u64 d.sq, .int .i64 d.kd, .int .i64 d.sd, .int .i64 d.pr, .int .u64 d.qt, .int .i64 d.ct]]) w' ∧ Hr w' M r n L (fun k => lf k && !(k == d.sq)) cnt' ∧ cnt' < cnt ∧ Kp (fun b => b = r) w w' := by
  obtain ⟨D, left, h1, h2, h3, h4, h5, h6⟩ := h
  rcases h1.next lawU 0 with ⟨_, h0, hr⟩ | ⟨key, v, kl, y, w', cnt', hkey, hl, hv, hat, hr, hrg, hlt, hgr, hsz, hen⟩
  · exact .inl ⟨fun k => by rw [← h2 k]; exact h0 _, fun ty => hr⟩
  · obtain ⟨x, rfl, rfl, hwx⟩ := Maps.keyOf_int_inv Try.underlying33 hkey
    obtain ⟨d, rfl, hd⟩ := rdm_inv hv
    have hlx : lf x = true := by rw [← h2 x]; exact hl
    have hany := h3 x hlx
    rw [List.any_eq_true] at hany
    obtain ⟨d', m1, m2⟩ := hany
    have m3 : d'.sq = x := by simpa using m2
    have e1 := h5 d' m1 .nil
    rw [m3, hat .nil, hd] at e1
    have e2 : d = d' := dd_inj e1
    subst e2
    subst m3
    refine .inr ⟨d, w', cnt', m1, hlx, fun ty => hr, hen, ⟨D, _, hrg, fun k => lf_cut left lf h2 d.sq k, fun k hk => h3 k (by simp at hk; exact hk.1), h4, h5, h6⟩, hlt, ⟨hgr.os, hgr.tape, hgr.output, hgr.size, fun b hb hne => hgr.block b hb (by simpa using hne)⟩⟩
theorem Hr.del {w : World} {M r n cnt : Nat} {L : List Dm} {lf : Int → Bool} (h : Hr w M r n L lf cnt) (hnd : L.Pairwise (fun x y => x.sq ≠ y.sq)) (k : Int) (hk : 0 ≤ k ∧ k < 18446744073709551616) (ty : TypeId) :
    ∃ w' cnt', (Builtin.delete_ #[103, 33] ty #[.map (some M), .int .u64 k]).run Try.prog w = .ok (.tuple #[]) w' ∧ Hr w' M r n (L.filter (fun d => d.sq != k)) (fun j => lf j && !(j == k)) cnt' ∧ cnt' ≤ cnt ∧ Kp (fun b => b = M) w w' := by
  obtain ⟨D, left, h1, h2, h3, h4, h5, h6⟩ := h
  obtain ⟨a1, a2, a3⟩ := del_facts h1.owns h4 h5 h6 hnd k
  obtain ⟨w', cnt', hr, hrg, hle, htu⟩ := h1.drop lawU Try.underlying103 (keyU hk) ty
  have g6 := htu.grown
  refine ⟨w', cnt', hr, ⟨_, _, hrg, fun j => lf_cut left lf h2 k j, fun j hj => ?_, a1, a2, a3⟩, hle, ⟨g6.os, g6.tape, g6.output, g6.size, fun b hb hne => g6.block b hb (by simpa using hne)⟩⟩
  simp only [Bool.and_eq_true, Bool.not_eq_true', beq_eq_false_iff_ne, ne_eq] at hj
  have := h3 j hj.1
  rw [List.any_eq_true] at this ⊢
  obtain ⟨x, m1, m2⟩ := this
  have m3 : x.sq = j := by simpa using m2
  exact ⟨x, List.mem_filter.2 ⟨m1, by rw [m3]; simpa using hj.2⟩, m2⟩
/-- the least so far. -/
structure Mn (g : Int) (L : List Dm) (lf : Int → Bool) (t : Int) : Prop where
  le : t ≤ g
  seen : ∀ d ∈ L, lf d.sq = false → t ≤ d.sq - 1
  at_ : t = g ∨ ∃ d ∈ L, t = d.sq - 1
theorem Mn.next {g : Int} {L : List Dm} {lf : Int → Bool} {t : Int} (h : Mn g L lf t) {d : Dm} (hd : d ∈ L) : Mn g L (fun k => lf k && !(k == d.sq)) (min t (d.sq - 1)) := by
  refine ⟨by have := h.le; omega, fun x hx hf => ?_, ?_⟩
  · by_cases e : x.sq = d.sq
    · rw [e]; omega
    · have : lf x.sq = false := by
        cases hq : lf x.sq with
        | false => rfl
        | true => rw [hq] at hf; simp [e] at hf
      have := h.seen x hx this
      omega
  · by_cases e : t ≤ d.sq - 1
    · rw [Int.min_eq_left e]; exact h.at_
    · rw [Int.min_eq_right (by omega)]; exact .inr ⟨d, hd, rfl⟩
end Go.Proofs.Ytojmcfkbekodpaa.Fd
namespace Go.Proofs.Ytojmcfkbekodpaa.Fd
open Go.RowKit Go.Deep Go.Maps
set_option linter.unusedVariables false
set_option linter.unusedSimpArgs false
set_option maxHeartbeats 8000000
set_option maxRecDepth 100000
theorem infoP3 : (Try.prog.info? 49).map (·.size) = some 3 := by kernel_rfl
/-- what is still held. -/
def cf (ps : Int) (lf : Int → Bool) (L : List Dm) : List Dm := L.filter (fun d => decide (ps < d.sq) || lf d.sq)
theorem cf_all (ps : Int) (L : List Dm) : cf ps (hasN L) L = L := by
  unfold cf
  rw [List.filter_eq_self]
  intro d hd
  have : hasN L d.sq = true := by unfold hasN; rw [List.any_eq_true]; exact ⟨d, hd, by simp⟩
  rw [this]; simp
theorem cf_end {ps : Int} {lf : Int → Bool} {L : List Dm} (h : ∀ k, lf k = false) : cf ps lf L = L.filter (fun d => decide (ps < d.sq)) := by
  unfold cf
  congr 1
  funext d
  rw [h]; simp
theorem cf_keep {ps : Int} {lf : Int → Bool} {L : List Dm} {x : Int} (h : ps < x) : cf ps (fun k => lf k && !(k == x)) L = cf ps lf L := by
  unfold cf
  congr 1
  funext d
  by_cases e : d.sq = x
  · rw [e]; simp [h]
  · have : (d.sq == x) = false := by simpa using e
    simp only [this]; simp
theorem cf_drop {ps : Int} {lf : Int → Bool} {L : List Dm} {x : Int} (h : ¬ ps < x) : cf ps (fun k => lf k && !(k == x)) L = (cf ps lf L).filter (fun d => d.sq != x) := by
  unfold cf
  rw [List.filter_filter]
  congr 1
  funext d
  by_cases e : d.sq = x
  · rw [e]; simp [h]
  · have h1 : (d.sq == x) = false := by simpa using e
    have h2 : (d.sq != x) = true := by simpa using e
    simp only [h1, h2]; simp
theorem recover_no {w : World} {S M nm : Nat} {sq hold gr : Int} {p1 : Option Addr} {c1 : Nat} {l1 : List Lv} {p2 : Option Addr} {c2 : Nat} {l2 : List Lv} {L : List Dm} {la : Dm} (h : Sb w S M nm sq hold gr p1 c1 l1 p2 c2 l2 L la) (ps : Int) (b1 b2 : Option Addr) (d1 d2 : Nat) (m1 m2 : List Lv) (r1 : Rl w b1 d1 m1) (r2 : Rl w b2 d2 m2) (hno : (lok 1 m1 && lok 2 m2) = false) :
    Calls Try.prog 18 #[.pointer (some ⟨S, 0, none⟩), .agg #[.int .u64 ps, .slice b1 m1.length d1, .slice b2 m2.length d2]] w fun e w' => e = .returned (.int .i64 1) ∧ Below w.heap.size w w' := by
  obtain ⟨n1, hn1⟩ : ∃ n, m1.length = n := ⟨_, rfl⟩
  obtain ⟨n2, hn2⟩ : ∃ n, m2.length = n := ⟨_, rfl⟩
  obtain ⟨R, hR⟩ : ∃ R, w.heap.size = R := ⟨_, rfl⟩
  obtain ⟨W, hW⟩ : ∃ W, w.alloc (.cells #[.int .u64 ps, .slice b1 n1 d1, .slice b2 n2 d2] 49) = W := ⟨_, rfl⟩
  have hb0 : Below w.heap.size w W := by rw [← hW]; exact ball _ _
  have HD := hid (show W.heap[R]? = some (.cells #[.int .u64 ps, .slice b1 n1 d1, .slice b2 n2 d2] 49 (0, 0)) from by rw [← hW, ← hR]; exact World.alloc_heap_new _ _)
  have CB := hid (canBeLevels_any b1 b2 d1 d2 m1 m2 W (r1.on hb0) (r2.on hb0))
  rw [hno, hn1, hn2] at CB
  rw [hn1, hn2]
  have HB := hid hb0
  have HW := hid hW
  have HR := hid hR
  have j1 := row_cell HD.out 1
  have j2 := row_cell HD.out 2
  clear h r1 r2 hno hn1 hn2 hb0 hW hR
  go_enter Try.func18, Try.ntmps18
  go_upto_region 1 with fail
  rw [HW.out, HR.out]
  go_wp2_with (go_at_call 31; with_reducible refine (CB.out).mono ?_; rintro e V1 ⟨rfl, hb⟩; have BV1 := hid hb; clear hb)
  go_ret
  exact ⟨rfl, btr HB.out BV1.out⟩
theorem recover_old {w : World} {S M nm : Nat} {sq hold gr : Int} {p1 : Option Addr} {c1 : Nat} {l1 : List Lv} {p2 : Option Addr} {c2 : Nat} {l2 : List Lv} {L : List Dm} {la : Dm} (h : Sb w S M nm sq hold gr p1 c1 l1 p2 c2 l2 L la) (ps : Int) (b1 b2 : Option Addr) (d1 d2 : Nat) (m1 m2 : List Lv) (r1 : Rl w b1 d1 m1) (r2 : Rl w b2 d2 m2) (hyes : (lok 1 m1 && lok 2 m2) = true) (hlt : ps < sq) :
    Calls Try.prog 18 #[.pointer (some ⟨S, 0, none⟩), .agg #[.int .u64 ps, .slice b1 m1.length d1, .slice b2 m2.length d2]] w fun e w' => e = .returned (.int .i64 180) ∧ Below w.heap.size w w' := by
  obtain ⟨n1, hn1⟩ : ∃ n, m1.length = n := ⟨_, rfl⟩
  obtain ⟨n2, hn2⟩ : ∃ n, m2.length = n := ⟨_, rfl⟩
  obtain ⟨R, hR⟩ : ∃ R, w.heap.size = R := ⟨_, rfl⟩
  obtain ⟨W, hW⟩ : ∃ W, w.alloc (.cells #[.int .u64 ps, .slice b1 n1 d1, .slice b2 n2 d2] 49) = W := ⟨_, rfl⟩
  have hb0 : Below w.heap.size w W := by rw [← hW]; exact ball _ _
  have HD := hid (show W.heap[R]? = some (.cells #[.int .u64 ps, .slice b1 n1 d1, .slice b2 n2 d2] 49 (0, 0)) from by rw [← hW, ← hR]; exact World.alloc_heap_new _ _)
  have CB := hid (canBeLevels_any b1 b2 d1 d2 m1 m2 W (r1.on hb0) (r2.on hb0))
  rw [hyes, hn1, hn2] at CB
  rw [hn1, hn2]
  have HS := hid (h.on hb0)
  have HB := hid hb0
  have HW := hid hW
  have HR := hid hR
  have j1 := row_cell HD.out 1
  have j2 := row_cell HD.out 2
  have g1 : decide (ps < sq) = true := by simpa using hlt
  clear h r1 r2 hyes hn1 hn2 hb0 hW hR
  go_enter Try.func18, Try.ntmps18
  go_upto_region 1 with fail
  rw [HW.out, HR.out]
  go_upto_region 3 with (go_at_call 31; with_reducible refine (CB.out).mono ?_; rintro e V1 ⟨rfl, hb⟩; have BV1 := hid hb; clear hb)
  clear j1 j2
  have j0 := row_cell (row_on HD.out BV1.out) 0
  have k0 := row_cell (HS.out.on BV1.out).row 0
  go_quiet (fail)
  go_wp2
  go_ret
  exact ⟨rfl, btr HB.out (btr BV1.out (bdrew _ _))⟩
theorem recover_ok {w : World} {S M nm : Nat} {sq gr : Int} {hold : Nat} {p1 : Option Addr} {c1 : Nat} {l1 : List Lv} {p2 : Option Addr} {c2 : Nat} {l2 : List Lv} {L : List Dm} {la : Dm} (h : Sb w S M nm sq hold gr p1 c1 l1 p2 c2 l2 L la) (hg : Sg hold ⟨sq, gr, l1, l2, L, la⟩) (ps : Int) (hps : 0 ≤ ps ∧ ps < 18446744073709551616) (b1 b2 : Option Addr) (d1 d2 : Nat) (m1 m2 : List Lv) (r1 : Rl w b1 d1 m1) (r2 : Rl w b2 d2 m2) (hy1 : lok 1 m1 = true) (hy2 : lok 2 m2 = true) (hge : ¬ ps < sq) :
    Calls Try.prog 18 #[.pointer (some ⟨S, 0, none⟩), .agg #[.int .u64 ps, .slice b1 m1.length d1, .slice b2 m2.length d2]] w fun e w' => e = .returned (.int .i64 0) ∧ Bhd w S M nm hold (goS ⟨ps, gr, m1, m2, L.filter (fun d => decide (ps < d.sq)), la⟩) p1 p2 w' := by
  obtain ⟨n1, hn1⟩ : ∃ n, m1.length = n := ⟨_, rfl⟩
  obtain ⟨n2, hn2⟩ : ∃ n, m2.length = n := ⟨_, rfl⟩
  obtain ⟨R, hR⟩ : ∃ R, w.heap.size = R := ⟨_, rfl⟩
  obtain ⟨W, hW⟩ : ∃ W, w.alloc (.cells #[.int .u64 ps, .slice b1 n1 d1, .slice b2 n2 d2] 49) = W := ⟨_, rfl⟩
  have hb0 : Below w.heap.size w W := by rw [← hW]; exact ball _ _
  have HD := hid (show W.heap[R]? = some (.cells #[.int .u64 ps, .slice b1 n1 d1, .slice b2 n2 d2] 49 (0, 0)) from by rw [← hW, ← hR]; exact World.alloc_heap_new _ _)
  have hk1 := (lok_iff _ _).1 hy1
  have hk2 := (lok_iff _ _).1 hy2
  have CB := hid (canBeLevels_any b1 b2 d1 d2 m1 m2 W (r1.on hb0) (r2.on hb0))
  have CC := hid (fun (U : World) (hU : Below W.heap.size W U) => copied_any ps b1 b2 d1 d2 m1 m2 U ((r1.on hb0).on hU) ((r2.on hb0).on hU) (by have := hk1.len; omega) (by have := hk2.len; omega))
  rw [hy1, hy2, hn1, hn2] at CB
  rw [hn1, hn2] at CC
  have HPG := hid (hg.pic hps hy1 hy2)
  have HG := hid hg
  dsimp only at HPG
  have HS := hid (h.on hb0)
  have HK1 := hid hk1
  have HK2 := hid hk2
  have HN1 := hid hn1
  have HN2 := hid hn2
  obtain ⟨T, hT⟩ : ∃ T, goS ⟨ps, gr, m1, m2, L.filter (fun d => decide (ps < d.sq)), la⟩ = T := ⟨_, rfl⟩
  rw [hT]
  have HT := hid hT
  rw [hn1, hn2]
  have HB := hid hb0
  have HW := hid hW
  have HR := hid hR
  have j1 := row_cell HD.out 1
  have j2 := row_cell HD.out 2
  have g1 : decide (ps < sq) = false := by simpa using hge
  clear h r1 r2 hy1 hy2 hn1 hn2 hb0 hW hR hg hT hk1 hk2
  go_enter Try.func18, Try.ntmps18
  go_upto_region 1 with fail
  rw [HW.out, HR.out]
  go_upto_region 3 with (go_at_call 31; with_reducible refine (CB.out).mono ?_; rintro e V1 ⟨rfl, hb⟩; have BV1 := hid hb; clear hb)
  clear j1 j2
  have j0 := row_cell (row_on HD.out BV1.out) 0
  have k0 := row_cell (HS.out.on BV1.out).row 0
  go_quiet (fail)
  go_upto_region 5 with fail
  obtain ⟨V2, hV2⟩ : ∃ V2, V1.drewN nq = V2 := ⟨_, rfl⟩
  have BV2 := hid (show Below W.heap.size W V2 from by rw [← hV2]; exact btr BV1.out (bdrew _ _))
  rw [hV2]
  clear hV2 j0 k0 g1
  have j0 := row_cell (row_on HD.out BV2.out) 0
  have j1 := row_cell (row_on HD.out BV2.out) 1
  have j2 := row_cell (row_on HD.out BV2.out) 2
  have C2 := hid (CC.out V2 BV2.out)
  go_upto_region 6 with (first | (go_at_call 38; with_reducible refine (C2.out).mono ?_; rintro e V3 ⟨q1, e1, q2, e2, rfl, h1, h2, h3, h4⟩; have Q1 := hid h1; have Q2 := hid h2; have Q3 := hid h3; have BV3 := hid (btr BV2.out h4); have HS3 := hid (HS.out.on BV3.out); have TH := hid (row_there HS3.out.row 0 3 (by simp)); clear h1 h2 h3 h4) | (refine wpList_store_mid (by rfl) 49 (.tmp 26) (.tmp 24) (by rfl) S 0 #[.int .u64 ps, .slice q1 n1 e1, .slice q2 n2 e2] (by rfl) (by rfl) TH.out infoP3 (by simp [Value.oneCell']) ?_))
  obtain ⟨V4, hV4⟩ : ∃ V, V3.setCells S 0 #[.int .u64 ps, .slice q1 n1 e1, .slice q2 n2 e2].toList = V := ⟨_, rfl⟩
  have hV4' : ((V3.setCell ⟨S, 0, none⟩ (.int .u64 ps)).setCell ⟨S, 1, none⟩ (.slice q1 n1 e1)).setCell ⟨S, 2, none⟩ (.slice q2 n2 e2) = V4 := hV4
  have K4 := hid (show Kp (fun g => g = S) V3 V4 from by rw [← hV4']; exact ((Kp.set _ _ _ _).trans (Kp.set _ _ _ _) (fun _ _ h => h)).trans (Kp.set _ _ _ _) (fun _ _ h => h))
  have HS4 := hid (show Sb V4 S M nm ps hold gr q1 e1 m1 q2 e2 m2 L la from by
    have hs := HS3.out
    have ns : ∀ g, (∃ cu, V3.heap[g]? = some (.cells cu 71 (0, 0))) → ¬ g = S := fun g hg e => by obtain ⟨cu, hc⟩ := hg; exact row_ne hc hs.row (by decide) e
    refine ⟨?_, (Q1.out.kept K4.out (fun g hg => ns g (Q1.out.ty hg))).base (Nat.zero_le _), (Q2.out.kept K4.out (fun g hg => ns g (Q2.out.ty hg))).base (Nat.zero_le _), HK1.out, HK2.out, hs.hm.kept K4.out (fun e => map_ne hs.hm hs.row e), hps, hs.gr⟩
    rw [← hV4', HN1.out, HN2.out]
    exact set_row _ (set_row _ (set_row _ hs.row)))
  have KW4 := hid (show Kp (fun g => g = S) w V4 from (Kp.of _ (btr HB.out BV3.out)).trans K4.out (fun _ _ h => h))
  have HD4 := hid (K4.out.row (row_on HD.out BV3.out) (fun e => row_ne (row_on HD.out BV3.out) HS3.out.row (by decide) e))
  have HQL := hid (show (∀ g, OfP q1 g → w.heap.size ≤ g) ∧ (∀ g, OfP q2 g → w.heap.size ≤ g) from ⟨fun g hg => Nat.le_trans (btr HB.out BV2.out).size (Q1.out.ge hg).1, fun g hg => Nat.le_trans (btr HB.out BV2.out).size (Q2.out.ge hg).1⟩)
  try rw [hV4]
  clear hV4 hV4' j0 j1 j2
  have k4 := row_cell HS4.out.row 4
  obtain ⟨V5, cnt, hrun, hr, hb⟩ := HS4.out.hm.range
  obtain ⟨r, hre⟩ : ∃ r, V4.heap.size = r := ⟨_, rfl⟩
  rw [hre] at hrun hr
  have HR0 := hid hr
  have HB5 := hid hb
  have HRE := hid hre
  have HLTS := hid (show S < r ∧ M < r ∧ R < r ∧ (∀ g, OfP q1 g → g < r) ∧ (∀ g, OfP q2 g → g < r) from by
    rw [← hre]
    exact ⟨row_lt HS4.out.row, HS4.out.hm.lt, row_lt HD4.out, fun g hg => by obtain ⟨cu, hc⟩ := HS4.out.o1.ty hg; exact row_lt hc, fun g hg => by obtain ⟨cu, hc⟩ := HS4.out.o2.ty hg; exact row_lt hc⟩)
  clear hr hb hre
  go_wp2
  try go_frame
  go_loopg [] (cnt) (fun k wr => ∃ (lf : Int → Bool), Hid (Hr wr M r nm (cf ps lf L) lf k) ∧ Hid (Sb wr S M nm ps hold gr q1 e1 m1 q2 e2 m2 (cf ps lf L) la) ∧ Hid (Kp (fun g => g = S ∨ g = M) w wr) ∧ Hid (wr.heap[R]? = some (.cells #[.int .u64 ps, .slice b1 n1 d1, .slice b2 n2 d2] 49 (0, 0))) ∧ Hid (r < wr.heap.size))
  case atStart =>
    refine ⟨hasN L, ?_, ?_, ?_, row_on HD4.out HB5.out, ?_⟩
    · rw [cf_all]; exact HR0.out
    · rw [cf_all]; exact HS4.out.on HB5.out
    · exact (KW4.out.mono (fun _ _ h => .inl h)).trans (Kp.of (fun _ => False) HB5.out) (fun _ _ h => h.elim)
    · obtain ⟨D, left, ⟨es, clock, since, seen, c0, a1, a2, a3, a4, a5, a6⟩, h2⟩ := HR0.out
      exact row_lt a5
  case round =>
    obtain ⟨lf, HRR, HSW, HKW, HDW, HRL⟩ := hrel
    clear hrun k4
    rcases HRR.out.next with ⟨h0, hdone⟩ | ⟨d, wn, cn, hdm, hlf, hnext, hentry, hmr, hlt, hko⟩
    · have E := hid (cf_end (ps := ps) (L := L) h0)
      have CU := hid (catch_any (s := ⟨ps, gr, m1, m2, cf ps lf L, la⟩) ⟨HSW.out, Q3.out⟩ (by rw [E.out]; exact HPG.out))
      rw [E.out, HT.out] at CU
      clear h0
      go_wp2_with (go_at_call 42; with_reducible refine (CU.out).mono ?_; rintro e V6 ⟨rfl, h1⟩; have G1 := hid h1; clear h1)
      go_ret
      refine ⟨rfl, ?_⟩
      obtain ⟨s1, g1, s2, g2, x1, x2, x3, x4⟩ := G1.out
      have z1 := HKW.out.size
      refine ⟨s1, g1, s2, g2, x1, ?_, ?_, ?_⟩
      · refine (HKW.out.mono (fun _ _ h => h.elim .inl (fun h => .inr (.inl h)))).trans x2 (fun g hg h => ?_)
        rcases h with h | h | h | h
        · exact .inl h
        · exact .inr (.inl h)
        · have := HQL.out.1 g h; omega
        · have := HQL.out.2 g h; omega
      · intro g hg
        rcases x3 g hg with h | h
        · exact .inr (HQL.out.1 g h)
        · exact .inr (by omega)
      · intro g hg
        rcases x4 g hg with h | h
        · exact .inr (HQL.out.2 g h)
        · exact .inr (by omega)
    · have hd := HG.out.hl d (List.mem_filter.1 hdm).1
      dsimp only at hd
      have HDR := hid (show 0 ≤ d.sq ∧ d.sq < 18446744073709551616 from ⟨hd.2.1, hd.2.2.1⟩)
      have HMR := hid hmr
      have HKO := hid hko
      have HLT := hid hlt
      have HS1 := hid (show Sb wn S M nm ps hold gr q1 e1 m1 q2 e2 m2 (cf ps lf L) la from HSW.out.kept hko (fun e => by have := HLTS.out.1; omega) (fun e => by have := HLTS.out.2.1; omega) (fun g hg e => by have := HLTS.out.2.2.2.1 g hg; omega) (fun g hg e => by have := HLTS.out.2.2.2.2 g hg; omega))
      have HD1 := hid (show wn.heap[R]? = some (.cells #[.int .u64 ps, .slice b1 n1 d1, .slice b2 n2 d2] 49 (0, 0)) from hko.row HDW.out (fun e => by have := HLTS.out.2.2.1; omega))
      have HKW1 := hid (show Kp (fun g => g = S ∨ g = M) w wn from HKW.out.trans hko (fun g hg e => by have := HRE.out; have := KW4.out.size; omega))
      clear hd hdm hlf hmr hko hlt
      have j0 := row_cell HD1.out 0
      by_cases hle : ps < d.sq
      · have g1 : decide (d.sq ≤ ps) = false := by simp; omega
        have HLE := hid hle
        clear hle
        go_wp2
        go_roundg cn
        case measure => exact HLT.out
        case rel => exact ⟨fun k => lf k && !(k == d.sq), by rw [cf_keep HLE.out]; exact HMR.out, by rw [cf_keep HLE.out]; exact HS1.out, HKW1.out, HD1.out, Nat.lt_of_lt_of_le HRL.out HKO.out.size⟩
      · have g1 : decide (d.sq ≤ ps) = true := by simp; omega
        have HLE := hid hle
        obtain ⟨wd, cd, hdrun, hdr, hdle, hdk⟩ := HMR.out.del (HG.out.nd.filter _) d.sq HDR.out 0
        have HDK := hid hdk
        have HDR2 := hid hdr
        have HDL := hid hdle
        have k4 := row_cell HS1.out.row 4
        clear hle hdr hdle hdk
        go_wp2
        go_roundg cd
        case measure => exact Nat.lt_of_le_of_lt HDL.out HLT.out
        case rel =>
          have hs := HS1.out
          have hh := HDR2.out
          rw [show (fun j => (lf j && !(j == d.sq)) && !(j == d.sq)) = (fun k => lf k && !(k == d.sq)) from by funext j; cases lf j <;> cases (j == d.sq) <;> rfl, ← cf_drop (show ¬ ps < d.sq from by have := HLE.out; omega)] at hh
          refine ⟨_, hh, ⟨HDK.out.row hs.row (fun e => map_ne hs.hm hs.row e.symm), hs.o1.kept HDK.out (fun g hg e => by obtain ⟨cu, hc⟩ := hs.o1.ty hg; exact map_ne hs.hm hc e.symm), hs.o2.kept HDK.out (fun g hg e => by obtain ⟨cu, hc⟩ := hs.o2.ty hg; exact map_ne hs.hm hc e.symm), hs.k1, hs.k2, hh.hm, hs.sq, hs.gr⟩, HKW1.out.trans HDK.out (fun _ _ h => .inr h), HDK.out.row HD1.out (fun e => map_ne hs.hm HD1.out e.symm), ?_⟩
          exact Nat.lt_of_lt_of_le HRL.out (Nat.le_trans HKO.out.size HDK.out.size)
theorem recover_any {w : World} {S M nm hold : Nat} {s : Ss} {p1 p2 : Option Addr} {c1 c2 : Nat} (h : Su w S M nm hold s p1 c1 p2 c2) (hg : Sg hold s) (ps : Int) (hps : 0 ≤ ps ∧ ps < 18446744073709551616) (b1 b2 : Option Addr) (d1 d2 : Nat) (m1 m2 : List Lv) (r1 : Rl w b1 d1 m1) (r2 : Rl w b2 d2 m2) :
    Calls Try.prog 18 #[.pointer (some ⟨S, 0, none⟩), .agg #[.int .u64 ps, .slice b1 m1.length d1, .slice b2 m2.length d2]] w fun e w' => e = .returned (.int .i64 (rcE s ps m1 m2)) ∧ Bhd w S M nm hold (rcS s ps m1 m2) p1 p2 w' := by
  obtain ⟨sq, gr, l1, l2, L, la⟩ := s
  have hsb := h.sb
  dsimp only at hsb
  cases hno : (lok 1 m1 && lok 2 m2) with
  | false =>
    have e1 : rcE ⟨sq, gr, l1, l2, L, la⟩ ps m1 m2 = 1 := by unfold rcE; rw [if_pos hno]
    have e2 : rcS ⟨sq, gr, l1, l2, L, la⟩ ps m1 m2 = ⟨sq, gr, l1, l2, L, la⟩ := by unfold rcS; rw [if_pos hno]
    rw [e1, e2]
    refine (recover_no hsb ps b1 b2 d1 d2 m1 m2 r1 r2 hno).mono ?_
    rintro e w' ⟨rfl, hb⟩
    exact ⟨rfl, Bhd.same h hb⟩
  | true =>
    have hno' : ¬ (lok 1 m1 && lok 2 m2) = false := by simp [hno]
    by_cases hlt : ps < sq
    · have e1 : rcE ⟨sq, gr, l1, l2, L, la⟩ ps m1 m2 = 180 := by unfold rcE; rw [if_neg hno', if_pos hlt]
      have e2 : rcS ⟨sq, gr, l1, l2, L, la⟩ ps m1 m2 = ⟨sq, gr, l1, l2, L, la⟩ := by unfold rcS; rw [if_neg hno', if_pos hlt]
      rw [e1, e2]
      refine (recover_old hsb ps b1 b2 d1 d2 m1 m2 r1 r2 hno hlt).mono ?_
      rintro e w' ⟨rfl, hb⟩
      exact ⟨rfl, Bhd.same h hb⟩
    · have e1 : rcE ⟨sq, gr, l1, l2, L, la⟩ ps m1 m2 = 0 := by unfold rcE; rw [if_neg hno', if_neg hlt]
      have e2 : rcS ⟨sq, gr, l1, l2, L, la⟩ ps m1 m2 = goS ⟨ps, gr, m1, m2, L.filter (fun d => decide (ps < d.sq)), la⟩ := by unfold rcS; rw [if_neg hno', if_neg hlt]
      rw [e1, e2]
      rw [Bool.and_eq_true] at hno
      exact recover_ok hsb hg ps hps b1 b2 d1 d2 m1 m2 r1 r2 hno.1 hno.2 hlt
end Go.Proofs.Ytojmcfkbekodpaa.Fd
