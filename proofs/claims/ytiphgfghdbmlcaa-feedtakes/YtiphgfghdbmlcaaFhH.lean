/-
  A way through what is held; Missing.
-/
import Derived.Test.YtiphgfghdbmlcaaFhE
import Derived.Deep.LoopGhost
namespace Go.Proofs.Ytiphgfghdbmlcaa
open Go.RowKit Go.Deep Go.Maps
set_option linter.unusedVariables false
set_option linter.unusedSimpArgs false
set_option maxHeartbeats 8000000
set_option maxRecDepth 100000
theorem del_facts {w : World} {M n : Nat} {D : DataW Unit} {L : List Dm} (h1 : w.ownsMap Try.prog 27 rdm M n D) (h2 : ∀ k, has D (.int .u64 k) = L.any (fun d => d.sq == k)) (h3 : ∀ d ∈ L, ∀ z, D.atKey (.int .u64 d.sq) z = dd d) (h4 : size D = L.length) (hnd : L.Pairwise (fun x y => x.sq ≠ y.sq)) (k : Int) :
    (∀ j, has (D.del (.int .u64 k)) (.int .u64 j) = (L.filter (fun d => d.sq != k)).any (fun d => d.sq == j)) ∧ (∀ d ∈ L.filter (fun d => d.sq != k), ∀ z, (D.del (.int .u64 k)).atKey (.int .u64 d.sq) z = dd d) ∧ size (D.del (.int .u64 k)) = (L.filter (fun d => d.sq != k)).length := by
  refine ⟨?_, ?_, ?_⟩
  · intro j
    by_cases e : j = k
    · subst e
      rw [has_del_same]
      symm
      rw [List.any_eq_false]
      intro x hx
      have := (List.mem_filter.1 hx).2
      simpa using this
    · rw [has_del_other (by simp [e]), h2, List.any_filter]
      congr 1
      funext d
      by_cases e2 : d.sq = j
      · simp [e2, e]
      · simp [e2]
  · intro y hy z
    obtain ⟨y1, y2⟩ := List.mem_filter.1 hy
    have ne : y.sq ≠ k := by simpa using y2
    rw [atKey_del_other (by simp [ne])]
    exact h3 y y1 z
  · have sd := size_del (k := .int .u64 k) (h1.tidy lawU)
    rw [h2, h4] at sd
    have key : ∀ l : List Dm, l.Pairwise (fun x y => x.sq ≠ y.sq) → (l.filter (fun d => d.sq != k)).length + (if l.any (fun d => d.sq == k) = true then 1 else 0) = l.length := by
      intro l
      induction l with
      | nil => intro _; rfl
      | cons x l ih =>
        intro hp
        rw [List.pairwise_cons] at hp
        have := ih hp.2
        by_cases e : x.sq = k
        · have hno : l.any (fun d => d.sq == k) = false := by
            rw [List.any_eq_false]
            intro y hy hc
            exact hp.1 y hy (by rw [e]; exact (by simpa using hc : y.sq = k).symm)
          rw [hno] at this
          simp only [Bool.false_eq_true, if_false, Nat.add_zero] at this
          simp [e, this]
        · have b1 : (x.sq == k) = false := by simpa using e
          simp only [List.filter_cons, List.any_cons, b1, Bool.false_or, List.length_cons]
          have b2 : (x.sq != k) = true := by simpa using e
          rw [if_pos b2, List.length_cons]
          omega
    have := key L hnd
    omega
/-- a way through what is held; lf: what is still to come. -/
def Hr (w : World) (M r n : Nat) (L : List Dm) (lf : Int → Bool) (cnt : Nat) : Prop :=
  ∃ (D : DataW Unit) (left : Lit → Bool), w.ranges Try.prog 27 rdm M r n D left cnt ∧ (∀ k, left (.int .u64 k) = lf k) ∧ (∀ k, lf k = true → L.any (fun d => d.sq == k) = true) ∧ (∀ k, has D (.int .u64 k) = L.any (fun d => d.sq == k)) ∧ (∀ d ∈ L, ∀ z, D.atKey (.int .u64 d.sq) z = dd d) ∧ size D = L.length
theorem Hr.hm {w : World} {M r n cnt : Nat} {L : List Dm} {lf : Int → Bool} (h : Hr w M r n L lf cnt) : Hm w M n L := by
  obtain ⟨D, left, h1, h2, h3, h4, h5, h6⟩ := h
  exact ⟨D, h1.owns, h4, h5, h6⟩
theorem Hr.kept {w w' : World} {F : Nat → Prop} {M r n cnt : Nat} {L : List Dm} {lf : Int → Bool} (h : Hr w M r n L lf cnt) (hk : Kp F w w') (hM : ¬ F M) (hr : ¬ F r) : Hr w' M r n L lf cnt := by
  obtain ⟨D, left, ⟨es, clock, since, seen, c0, a1, a2, a3, a4, a5, a6⟩, h2⟩ := h
  exact ⟨D, left, ⟨es, clock, since, seen, c0, (hk.obj M (row_lt a1) hM).trans a1, a2, a3, a4, (hk.obj r (row_lt a5) hr).trans a5, a6⟩, h2⟩
theorem Hr.on {w w' : World} {M r n cnt : Nat} {L : List Dm} {lf : Int → Bool} (h : Hr w M r n L lf cnt) (hb : Below w.heap.size w w') : Hr w' M r n L lf cnt := h.kept (Kp.of (fun _ => False) hb) _root_.id _root_.id
theorem Hm.range {w : World} {M n : Nat} {L : List Dm} (h : Hm w M n L) : ∃ w' cnt, (Instr.range 90 (.map (some M))).run Try.prog w = .ok (.pointer (some ⟨w.heap.size, 0, none⟩)) w' ∧ Hr w' M w.heap.size n L (hasN L) cnt ∧ Below w.heap.size w w' := by
  obtain ⟨D, h1, h2, h3, h4⟩ := h
  obtain ⟨w', hr, h5, h6, h7⟩ := h1.range lawU Try.underlying90
  exact ⟨w', _, hr, ⟨D, _, h5, fun k => h2 k, fun k hk => hk, h2, h3, h4⟩, ⟨h6.os, h6.tape, h6.output, h6.size, fun i hi => h6.block i hi (by simp)⟩⟩
theorem lf_cut (left : Lit → Bool) (lf : Int → Bool) (h : ∀ k, left (.int .u64 k) = lf k) (x : Int) (k : Int) : (left (.int .u64 k) && !(Lit.int .u64 k).sameKey (.int .u64 x)) = (lf k && !(k == x)) := by
  rw [h k]
  by_cases e : k = x
  · subst e; simp [Lit.sameKey]
  · have : (k == x) = false := by simpa using e
    rw [this]
    simp [e, Lit.sameKey]
theorem Hr.next {w : World} {M r n cnt : Nat} {L : List Dm} {lf : Int → Bool} (h : Hr w M r n L lf cnt) :
    ((∀ k, lf k = false) ∧ ∀ ty, (Instr.next (.pointer (some ⟨r, 0, none⟩)) false ty).run Try.prog w = .ok (.tuple #[.bool false]) w) ∨
    ∃ d w' cnt', d ∈ L ∧ lf d.sq = true ∧ (∀ ty, (Instr.next (.pointer (some ⟨r, 0, none⟩)) false ty).run Try.prog w = .ok (.tuple #[.bool true, .int .u64 d.sq, .agg #[.int .u64 d.sq, .int .i64 d.kd, .int .i64 d.sd, .int .i64 d.pr, .int .u64 d.qt, .int .i64 d.ct]]) w') ∧ (Instr.entry (.pointer (some ⟨r, 0, none⟩))).run Try.prog w' = .ok (.tuple #[.int .u64 d.sq, .agg #[.int .u64 d.sq, .int .i64 d.kd, .int .i64 d.sd, .int .i64 d.pr, .int .u64 d.qt, .int .i64 d.ct]]) w' ∧ Hr w' M r n L (fun k => lf k && !(k == d.sq)) cnt' ∧ cnt' < cnt ∧ Kp (fun b => b = r) w w' := by
  obtain ⟨D, left, h1, h2, h3, h4, h5, h6⟩ := h
  rcases h1.next lawU 0 with ⟨_, h0, hr⟩ | ⟨key, v, kl, y, w', cnt', hkey, hl, hv, hat, hr, hrg, hlt, hgr, hsz, hen⟩
  · exact .inl ⟨fun k => by rw [← h2 k]; exact h0 _, fun ty => hr⟩
  · obtain ⟨x, rfl, rfl, hwx⟩ := Maps.keyOf_int_inv Try.underlying27 hkey
    obtain ⟨d, rfl, hd⟩ := rdm_inv hv
    have hlx : lf x = true := by rw [← h2 x]; exact hl
    have hany := h3 x hlx
    rw [List.any_eq_true] at hany
    obtain ⟨d', m1, m2⟩ := hany
    have m3 : d'.sq = x := by simpa using m2
    have e1 := h5 d' m1 .nil
    rw [m3, hat .nil, hd] at e1
    have e2 : d = d' := dd_inj e1
    subst e2
    subst m3
    refine .inr ⟨d, w', cnt', m1, hlx, fun ty => hr, hen, ⟨D, _, hrg, fun k => lf_cut left lf h2 d.sq k, fun k hk => h3 k (by simp at hk; exact hk.1), h4, h5, h6⟩, hlt, ⟨hgr.os, hgr.tape, hgr.output, hgr.size, fun b hb hne => hgr.block b hb (by simpa using hne)⟩⟩
theorem Hr.del {w : World} {M r n cnt : Nat} {L : List Dm} {lf : Int → Bool} (h : Hr w M r n L lf cnt) (hnd : L.Pairwise (fun x y => x.sq ≠ y.sq)) (k : Int) (hk : 0 ≤ k ∧ k < 18446744073709551616) (ty : TypeId) :
    ∃ w' cnt', (Builtin.delete_ #[90, 27] ty #[.map (some M), .int .u64 k]).run Try.prog w = .ok (.tuple #[]) w' ∧ Hr w' M r n (L.filter (fun d => d.sq != k)) (fun j => lf j && !(j == k)) cnt' ∧ cnt' ≤ cnt ∧ Kp (fun b => b = M) w w' := by
  obtain ⟨D, left, h1, h2, h3, h4, h5, h6⟩ := h
  obtain ⟨a1, a2, a3⟩ := del_facts h1.owns h4 h5 h6 hnd k
  obtain ⟨w', cnt', hr, hrg, hle, htu⟩ := h1.drop lawU Try.underlying90 (keyU hk) ty
  have g6 := htu.grown
  refine ⟨w', cnt', hr, ⟨_, _, hrg, fun j => lf_cut left lf h2 k j, fun j hj => ?_, a1, a2, a3⟩, hle, ⟨g6.os, g6.tape, g6.output, g6.size, fun b hb hne => g6.block b hb (by simpa using hne)⟩⟩
  simp only [Bool.and_eq_true, Bool.not_eq_true', beq_eq_false_iff_ne, ne_eq] at hj
  have := h3 j hj.1
  rw [List.any_eq_true] at this ⊢
  obtain ⟨x, m1, m2⟩ := this
  have m3 : x.sq = j := by simpa using m2
  exact ⟨x, List.mem_filter.2 ⟨m1, by rw [m3]; simpa using hj.2⟩, m2⟩
/-- the least so far. -/
structure Mn (g : Int) (L : List Dm) (lf : Int → Bool) (t : Int) : Prop where
  le : t ≤ g
  seen : ∀ d ∈ L, lf d.sq = false → t ≤ d.sq - 1
  at_ : t = g ∨ ∃ d ∈ L, t = d.sq - 1
theorem Mn.end_ {g : Int} {L : List Dm} {lf : Int → Bool} {t : Int} (h : Mn g L lf t) (h0 : ∀ k, lf k = false) : t = mnS g L := by
  refine Int.le_antisymm (mnS_glb h.le (fun d hd => h.seen d hd (h0 _))) ?_
  rcases h.at_ with e | ⟨d, hd, e⟩
  · rw [e]; exact mnS_le _ _
  · rw [e]; exact mnS_mem hd
theorem Mn.next {g : Int} {L : List Dm} {lf : Int → Bool} {t : Int} (h : Mn g L lf t) {d : Dm} (hd : d ∈ L) : Mn g L (fun k => lf k && !(k == d.sq)) (min t (d.sq - 1)) := by
  refine ⟨by have := h.le; omega, fun x hx hf => ?_, ?_⟩
  · by_cases e : x.sq = d.sq
    · rw [e]; omega
    · have : lf x.sq = false := by
        cases hq : lf x.sq with
        | false => rfl
        | true => rw [hq] at hf; simp [e] at hf
      have := h.seen x hx this
      omega
  · by_cases e : t ≤ d.sq - 1
    · rw [Int.min_eq_left e]; exact h.at_
    · rw [Int.min_eq_right (by omega)]; exact .inr ⟨d, hd, rfl⟩
def miA (s : Ss) : Int := if s.gr ≤ s.sq then 0 else uw (s.sq + 1)
def miB (s : Ss) : Int := if s.gr ≤ s.sq then 0 else mnS s.gr s.L
theorem missing_any {w : World} {S M nm hold : Nat} {s : Ss} {p1 p2 : Option Addr} {c1 c2 : Nat} (h : Su w S M nm hold s p1 c1 p2 c2) (hg : Sg hold s) :
    Calls Try.prog 40 #[.pointer (some ⟨S, 0, none⟩)] w fun e w' => e = .returned (.tuple #[.int .u64 (miA s), .int .u64 (miB s), .bool (!decide (s.gr ≤ s.sq))]) ∧ Below w.heap.size w w' := by
  obtain ⟨sq, gr, l1, l2, L, la⟩ := s
  have C := hid (good_any h.sb)
  have HS := hid h.sb
  have HG := hid hg
  dsimp only at C HS HG ⊢
  clear h hg
  by_cases hgd : gr ≤ sq
  · have e1 : miA ⟨sq, gr, l1, l2, L, la⟩ = 0 := by unfold miA; rw [if_pos hgd]
    have e2 : miB ⟨sq, gr, l1, l2, L, la⟩ = 0 := by unfold miB; rw [if_pos hgd]
    have e3 : decide (gr ≤ sq) = true := by simpa using hgd
    rw [e1, e2, e3]
    rw [e3] at C
    clear e1 e2 e3 hgd
    go_enter Try.func40, Try.ntmps40
    go_wp2_with (go_at_call 44; with_reducible refine (C.out).mono ?_; rintro e w1 ⟨rfl, n, rfl⟩)
    go_ret3
    exact ⟨rfl, bdrew _ _⟩
  · have e1 : miA ⟨sq, gr, l1, l2, L, la⟩ = uw (sq + 1) := by unfold miA; rw [if_neg hgd]
    have e2 : miB ⟨sq, gr, l1, l2, L, la⟩ = mnS gr L := by unfold miB; rw [if_neg hgd]
    have e3 : decide (gr ≤ sq) = false := by simpa using hgd
    rw [e1, e2, e3]
    rw [e3] at C
    clear e1 e2 e3 hgd
    obtain ⟨y, hy⟩ : ∃ y, IntKind.u64.wrap (sq + 1) = y := ⟨_, rfl⟩
    rw [show uw (sq + 1) = y from hy]
    go_enter Try.func40, Try.ntmps40
    go_upto_region 3 with (go_at_call 44; with_reducible refine (C.out).mono ?_; rintro e w1 ⟨rfl, n, rfl⟩)
    obtain ⟨V, hV⟩ : ∃ V, w.drewN n = V := ⟨_, rfl⟩
    have BV := hid (show Below w.heap.size w V from by rw [← hV]; exact bdrew _ _)
    rw [hV]
    clear hV C
    have HSV := hid (HS.out.on BV.out)
    obtain ⟨k0, k1, k2, k3, k4, k5⟩ := row12 HSV.out.row
    obtain ⟨V1, cnt, hrun, hr, hb⟩ := HSV.out.hm.range
    obtain ⟨r, hre⟩ : ∃ r, V.heap.size = r := ⟨_, rfl⟩
    rw [hre] at hrun hr
    have HR0 := hid hr
    have HB1 := hid hb
    have HRE := hid hre
    clear k1 k2 k3 hr hb hre
    go_wp2
    try go_frame
    go_loopg [5] (cnt) (fun k tv wr => ∃ (t : Int) (lf : Int → Bool), tv = .int .u64 t ∧ Hid (Hr wr M r nm L lf k) ∧ Hid (Mn gr L lf t) ∧ Hid (0 ≤ t) ∧ Hid (Below w.heap.size w wr) ∧ Hid (r < wr.heap.size))
    case atStart =>
      refine ⟨gr, hasN L, rfl, HR0.out, ⟨Int.le_refl _, fun d hd hf => ?_, .inl rfl⟩, HG.out.gr.1, btr BV.out HB1.out, ?_⟩
      · exfalso
        have : hasN L d.sq = true := by unfold hasN; rw [List.any_eq_true]; exact ⟨d, hd, by simp⟩
        rw [this] at hf
        cases hf
      · obtain ⟨D, left, ⟨es, clock, since, seen, c0, a1, a2, a3, a4, a5, a6⟩, h2⟩ := HR0.out
        exact row_lt a5
    case round =>
      obtain ⟨t, lf, rfl, HR, HMN, HT, HB, HRL⟩ := hrel
      clear hrun k0 k4 k5
      have HSW := hid (HS.out.on HB.out)
      rcases HR.out.next with ⟨h0, hdone⟩ | ⟨d, wn, cn, hdm, hlf, hnext, hentry, hmr, hlt, hko⟩
      · have E := hid (HMN.out.end_ h0)
        have k0 := row_cell HSW.out.row 0
        clear h0
        go_wp2
        go_ret3
        exact ⟨by rw [E.out]; rfl, HB.out⟩
      · have hd := HG.out.hl d hdm
        have hd1 := (dOk_iff d).1 hd.1
        dsimp only at hd
        have w1 : IntKind.u64.wrap (d.sq - 1) = d.sq - 1 := by rw [IntKind.wrap_u64]; omega
        have HM1 := hid (HMN.out.next hdm)
        have HMR := hid hmr
        have HKO := hid hko
        have HLT := hid hlt
        have HD1 := hid hd1.1
        clear hd hd1 hdm hlf hmr hko hlt
        go_wp2
        go_roundg cn
        case measure => exact HLT.out
        case rel =>
          exact ⟨min t (d.sq - 1), _, rfl, HMR.out, HM1.out, by have := HT.out; have := HD1.out; show 0 ≤ min t (d.sq - 1); omega, HB.out.trans (HKO.out.below HB.out.size (fun g hg e => by have := HRE.out; have := BV.out.size; omega)), Nat.lt_of_lt_of_le HRL.out HKO.out.size⟩
end Go.Proofs.Ytiphgfghdbmlcaa
