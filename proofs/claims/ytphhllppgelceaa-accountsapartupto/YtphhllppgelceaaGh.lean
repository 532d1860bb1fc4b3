/-
  Members: all that are open, each once.
-/
import Derived.Test.YtphhllppgelceaaMbA
import Derived.Test.YtphhllppgelceaaGg
import Derived.Test.YtphhllppgelceaaAcYp
import Derived.Test.YtphhllppgelceaaAcV
namespace Go.Proofs.Ytphhllppgelceaa.Ac
open Go.RowKit Go.Deep Go.Maps Go.Proofs.Ytphhllppgelceaa.MonM
set_option linter.unusedVariables false
set_option linter.unusedSimpArgs false
set_option maxHeartbeats 8000000
set_option maxRecDepth 100000
attribute [local go_sem ↓] Go.wp_at_zero Go.wp_at_succ
/-- what was seen of the open members. -/
structure Mq (f : Int × Int → Option Int) (lf : Int × Int → Bool) (l : List Int) : Prop where
  nd : l.Nodup
  u : ∀ m ∈ l, U32 m
  iff : ∀ m, U32 m → (m ∈ l ↔ (f (m, 1)).isSome = true ∧ lf (m, 1) = false)
theorem Mq.start (f : Int × Int → Option Int) : Mq f (fun k => (f k).isSome) [] := ⟨List.nodup_nil, fun m h => (by cases h), fun m _ => ⟨fun h => (by cases h), fun h => (by have h2 := h.2; rw [h.1] at h2; cases h2)⟩⟩
theorem Mq.other {f : Int × Int → Option Int} {lf : Int × Int → Bool} {l : List Int} (h : Mq f lf l) {k : Int × Int} (hk : k.2 ≠ 1) : Mq f (fun x => lf x && !(decide (x = k))) l :=
  ⟨h.nd, h.u, fun m hm => by
    rw [h.iff m hm]
    have e : ¬ ((m, (1 : Int)) = k) := fun e => hk (by rw [← e])
    simp [e]⟩
theorem Mq.next {f : Int × Int → Option Int} {lf : Int × Int → Bool} {l : List Int} (h : Mq f lf l) {m : Int} (hu : U32 m) (hf : (f (m, 1)).isSome = true) (hl : lf (m, 1) = true) : Mq f (fun x => lf x && !(decide (x = (m, 1)))) (l ++ [m]) := by
  have hn : m ∉ l := fun e => by
    have := ((h.iff m hu).1 e).2
    rw [hl] at this
    cases this
  refine ⟨?_, fun x hx => ?_, fun x hx => ?_⟩
  · rw [List.nodup_append]
    exact ⟨h.nd, by simp, fun a ha b hb e => by simp at hb; subst hb; subst e; exact hn ha⟩
  · rcases List.mem_append.1 hx with hx | hx
    · exact h.u x hx
    · simp at hx; rw [hx]; exact hu
  · rw [List.mem_append, h.iff x hx]
    by_cases e : x = m
    · subst e
      simp [hf]
    · have : ¬ ((x, (1 : Int)) = (m, 1)) := fun e2 => e (congrArg Prod.fst e2)
      simp [e, this]
theorem Mq.done {s : Ls} {lf : Int × Int → Bool} {l : List Int} (h : Mq s.f lf l) (h0 : ∀ k, kvB.ok k → lf k = false) : Mb s l :=
  ⟨h.nd, h.u, fun m hm => by
    rw [h.iff m hm]
    exact ⟨fun x => x.1, fun x => ⟨x, h0 (m, 1) ⟨hm, wf1⟩⟩⟩⟩
theorem ivs_snoc (l : List Int) (m : Int) : Sr.ivs (l ++ [m]) = Sr.ivs l ++ [.int .u32 m] := by simp [Sr.ivs]
/-- slices.Sort of one's own: some order of the same. -/
theorem sort_own {base : Nat} {w : World} {p : Option Addr} {c : Nat} {l : List Int} (h : w.ownsRow base 22 1 (.slice p l.length c) l.length (Sr.ivs l)) (hn : l.length ≤ 1000000000000) :
    Calls Try.prog 24 #[.slice p l.length c] w fun e w' => e = .returned (.tuple #[]) ∧ ∃ l', l'.Perm l ∧ Uz w' p l' ∧ Kp (fun b => base ≤ b) w w' := by
  by_cases h0 : l.length = 0
  · have e : l = [] := List.length_eq_zero_iff.1 h0
    subst e
    refine (Sr.sort0 p c w).mono ?_
    rintro e w' ⟨rfl, rfl⟩
    exact ⟨rfl, [], List.Perm.refl _, fun i hi => by simp at hi, Kp.refl _ _⟩
  · obtain ⟨g, rfl, hb, hz⟩ := Sr.own_uz rfl (by omega) h
    refine (Sr.sort_any g c l.length l w hz (by omega)).mono ?_
    rintro e w' ⟨rfl, l', hp, hu, hk⟩
    refine ⟨rfl, l', hp, fun i hi => ?_, ⟨hk.os, hk.tape, hk.output, hk.size, fun b hb2 hne => hk.obj b hb2 (fun e => hne (by rw [e]; exact hb))⟩⟩
    have hi2 : i < l.length := by rw [← hp.length_eq]; exact hi
    have hc := hu.cell hi2
    obtain ⟨cur, h1, _⟩ := hu.row
    refine ⟨g, 0, rfl, row_lt h1, ?_⟩
    rw [Nat.zero_add, hc]
    unfold Sr.gd
    rw [List.getD_eq_getElem?_getD, List.getElem?_eq_getElem hi]
    rfl
end Go.Proofs.Ytphhllppgelceaa.Ac
namespace Go.Proofs.Ytphhllppgelceaa.Ac
open List renaming getElem?_toArray → lqA, getElem?_cons_succ → lqB, getElem?_cons_zero → lqC
open Go.RowKit Go.Deep Go.Maps Go.Proofs.Ytphhllppgelceaa.MonM
set_option linter.unusedVariables false
set_option linter.unusedSimpArgs false
set_option maxHeartbeats 8000000
set_option maxRecDepth 100000
attribute [local go_sem ↓] Go.wp_at_zero Go.wp_at_succ
theorem own_lo {base : Nat} {w : World} {e : TypeId} {size n : Nat} {v : Value} {xs : List Value} (h : w.ownsRow base e size v n xs) {g : Nat} (hg : v.ownBlock = some g) : base ≤ g ∧ g < w.heap.size := by
  obtain ⟨cur, hc⟩ := own_ty h hg
  obtain ⟨h1, ⟨rfl, _⟩ | ⟨g', c, cur, rfl, r1, r2, r⟩⟩ := h
  · cases hg
  · cases hg; exact ⟨r1, row_lt hc⟩
theorem info36 : (Try.prog.info? 36).map (·.size) = some 2 := by kernel_rfl
theorem members_none {w : World} {G : Nat} {O : Nat → Prop} {k : Nat} {s : Ls} {P : Option Nat} {p : Option Addr} {c : Nat} (h : Lgx w G O k s none P p c) :
    Calls Try.prog 9 #[.pointer (some ⟨G, 0, none⟩)] w fun e w' => e = .returned (.slice none 0 0) ∧ Below w.heap.size w w' := by
  have a3 := row_cell h.row 3
  unfold lrow at a3
  simp only [lqA, lqB, lqC] at a3
  obtain ⟨V, hV⟩ : ∃ V, w.alloc (.mapIter none 0 #[] 0) = V := ⟨_, rfl⟩
  have hrun := range_none w 63 36 40 Try.underlying63
  obtain ⟨r, hr⟩ : ∃ r, w.heap.size = r := ⟨_, rfl⟩
  rw [hV, hr] at hrun
  have hnx := fun ty => next_none V r ty (by rw [← hV, ← hr]; exact World.alloc_heap_new _ _)
  have HB := hid (show Below w.heap.size w V from by rw [← hV]; exact ball _ _)
  have CS := hid (fun U => Sr.sort0 none 0 U)
  clear hV h hr
  go_enter Try.func9, Try.ntmps9
  go_wp2
  try go_frame
  go_loopg [3] (0) (fun k tv wr => tv = .slice none 0 0 ∧ wr = V)
  case atStart => exact ⟨rfl, rfl⟩
  case round =>
    obtain ⟨rfl, rfl⟩ := hrel
    go_wp2_with (go_at_call 24; with_reducible refine (CS.out _).mono ?_; rintro e w4 ⟨rfl, h4⟩; have h4 := h4.symm; subst h4)
    go_ret
    exact ⟨rfl, HB.out⟩
theorem members_some {w : World} {G : Nat} {O : Nat → Prop} {k : Nat} {s : Ls} {b : Nat} {P : Option Nat} {p : Option Addr} {c : Nat} (h : Lgx w G O k s (some b) P p c) (hk : k ≤ 1000000000000) :
    Calls Try.prog 9 #[.pointer (some ⟨G, 0, none⟩)] w fun e w' => ∃ l q d, e = .returned (.slice q (l : List Int).length d) ∧ Mb s l ∧ Uz w' q l ∧ l.length ≤ k ∧ Below w.heap.size w w' := by
  have a3 := row_cell h.row 3
  unfold lrow at a3
  simp only [lqA, lqB, lqC] at a3
  obtain ⟨V, cnt, hrun, hmr, hcn, hbv⟩ := h.bal.2.range okB
  have hrun : (Instr.range 63 (.map (some b))).run Try.prog w = .ok (.pointer (some ⟨w.heap.size, 0, none⟩)) V := hrun
  obtain ⟨r, hr⟩ : ∃ r, w.heap.size = r := ⟨_, rfl⟩
  rw [hr] at hrun hmr
  have HMR := hid hmr
  have HBV := hid hbv
  have HRR := hid hr
  have HBL := hid (show b < r from by rw [← hr]; exact h.bal.2.lt)
  have HCN := hid hcn
  have HK := hid hk
  clear h hmr hbv hr hcn hk
  go_enter Try.func9, Try.ntmps9
  go_wp2
  try go_frame
  go_loopg [3] (cnt) (fun kk tv wr => ∃ (l : List Int) (lf : Int × Int → Bool) (q : Option Addr) (d n : Nat), tv = .slice q n d ∧ Hid (l.length = n) ∧ Hid (Mr kvB wr b r k s.f lf kk) ∧ Hid (wr.ownsRow (r + 1) 22 1 (.slice q n d) n (Sr.ivs l)) ∧ Hid (Mq s.f lf l) ∧ Hid (n + kk ≤ k) ∧ Hid (Below w.heap.size w wr))
  case atStart => exact ⟨[], _, none, 0, 0, rfl, rfl, HMR, own_nil _ _ _ _, Mq.start _, by have := HCN.out; show 0 + cnt ≤ k; omega, HBV⟩
  case round =>
    obtain ⟨l, lf, q, d, n, rfl, HLN, HR, HO, HQ, HLE, HB⟩ := hrel
    clear hrun a3
    rcases HR.out.next okB kvallB with ⟨h0, hdone⟩ | ⟨x, v, wn, cn, hok, hlf, hnext, hentry, hmr, hlt, hko⟩
    · have HMB := hid (HQ.out.done (s := s) h0)
      have CS := hid (sort_own (l := l) (by rw [HLN.out]; exact HO.out) (by have := HLE.out; have := HK.out; have := HLN.out; omega))
      rw [HLN.out] at CS
      clear h0
      go_wp2_with (go_at_call 24; with_reducible refine CS.out.mono ?_; rintro e w4 ⟨rfl, l', hp, hu, hkk⟩; have HP := hid hp; have HU := hid hu; have HKK := hid hkk; clear hp hu hkk)
      go_ret
      refine ⟨l', q, d, by rw [HP.out.length_eq, HLN.out]; rfl, HMB.out.perm HP.out, HU.out, by rw [HP.out.length_eq, HLN.out]; have := HLE.out; omega, HB.out.trans (HKK.out.below HB.out.size (fun j hj e => by have := HRR.out; omega))⟩
    · obtain ⟨m, t⟩ := x
      have hnext : ∀ ty, (Instr.next (.pointer (some ⟨r, 0, none⟩)) false ty).run Try.prog wr = .ok (.tuple #[.bool true, .agg #[.int .u32 m, .int .i64 t], v]) wn := hnext
      have hentry : (Instr.entry (.pointer (some ⟨r, 0, none⟩))).run Try.prog wn = .ok (.tuple #[.agg #[.int .u32 m, .int .i64 t], v]) wn := hentry
      have HOK := hid hok
      have HLF := hid hlf
      have HSM := hid (show (s.f (m, t)).isSome = true from by obtain ⟨D, left, _, _, _, _, h5⟩ := HR.out; exact h5 _ hok hlf)
      have HMN := hid hmr
      have HLT := hid hlt
      have HKO := hid hko
      have HON := hid (own_same HO.out (fun g hg => hko.obj g (own_lo HO.out hg).2 (fun e => by have := (own_lo HO.out hg).1; omega)))
      have HBN := hid (HB.out.trans (hko.below HB.out.size (fun j hj e => by have := HRR.out; omega)))
      have HZ := hid (World.alloc_heap_new wn (.cells #[.int .u32 0, .int .i64 0] 36))
      clear hok hlf hmr hlt hko
      go_upto_region 5 with (refine wpList_store_row (by rfl) 36 (.tmp 4) (.tmp 13) (by rfl) wn.heap.size #[.int .u32 m, .int .i64 t] (by rfl) (by rfl) 36 _ HZ.out info36 (by rfl) (by simp [Value.oneCell']) ?_)
      obtain ⟨X, hX⟩ : ∃ X, (wn.alloc (.cells #[.int .u32 0, .int .i64 0] 36)).setRow wn.heap.size #[.int .u32 m, .int .i64 t] = X := ⟨_, rfl⟩
      have GX := hid (show X.heap[wn.heap.size]? = some (.cells #[.int .u32 m, .int .i64 t] 36 (0, 0)) from by rw [← hX]; exact setRow_heap _ _ _ _ 36 (0, 0) HZ.out)
      have BX := hid (show Below wn.heap.size wn X from by rw [← hX]; exact setRow_below (ball _ _) (Nat.le_refl _))
      rw [hX]
      obtain ⟨y, hy⟩ : ∃ y, wn.heap.size = y := ⟨_, rfl⟩
      rw [hy] at GX ⊢
      clear hX HZ hy hnext hentry
      have g0 := row_cell GX.out 0
      have g1 := row_cell GX.out 1
      simp only [lqA, lqB, lqC] at g0 g1
      have HOX := hid (own_on HON.out BX.out)
      have HMX := hid (HMN.out.on BX.out)
      have HBX := hid (btr HBN.out BX.out)
      by_cases ht : t = 1
      · have et : (t == 1) = true := by simpa using ht
        have HQ2 := hid (show Mq s.f (fun x => lf x && !(decide (x = (m, t)))) (l ++ [m]) from by
          have h1 := HOK.out.1
          have h2 := HLF.out
          have h3 := HSM.out
          rw [ht] at h2 h3 ⊢
          exact HQ.out.next h1 h3 h2)
        clear ht
        obtain ⟨Y, hY⟩ : ∃ Y, X.alloc (.cells #[.int .u32 m] 22) = Y := ⟨_, rfl⟩
        have BY := hid (show Below X.heap.size X Y from by rw [← hY]; exact ball _ _)
        have CY := hid (show Y.cell? ⟨X.heap.size, 0, none⟩ = some (.int .u32 m) from row_cell (show Y.heap[X.heap.size]? = some (.cells #[.int .u32 m] 22 (0, 0)) from by rw [← hY]; exact World.alloc_heap_new _ _) 0)
        have HOY := hid (own_on HOX.out BY.out)
        have HY := hid hY
        clear hY
        go_wp2_with (rw [HY.out]; at_builtin; refine Sr.app_one (by rfl) (.tmp 17) (.tmp 20) (by rfl) (r + 1) _ n (Sr.ivs l) (by rfl) HOY.out X.heap.size m (by rfl) CY.out (by have := HLE.out; have := HK.out; omega) (by have h1 := HRR.out; have h2 := HMX.out.lt; have h3 := BY.out.size; omega) ?_; intro v' w' hown hgrow; obtain ⟨q1, d1, rfl⟩ := own_form hown; have HO1 := hid hown; have HG1 := hid hgrow; clear hown hgrow)
        go_roundg cn
        case measure => exact HLT.out
        case rel =>
          have k1 : Kp (fun j => r + 1 ≤ j) Y w' := ⟨HG1.out.os, HG1.out.tape, HG1.out.output, HG1.out.size, fun j hj hne => HG1.out.block j hj (fun e => hne (own_lo HOY.out e.symm).1)⟩
          refine ⟨l ++ [m], _, q1, d1, n + 1, rfl, hid ?_, hid ((HMX.out.on BY.out).kept k1 (fun e => ?_) (fun e => ?_)), hid ?_, HQ2, hid ?_, hid ((btr HBX.out BY.out).trans (k1.below (btr HBX.out BY.out).size (fun j hj e => by have := HRR.out; omega)))⟩
          · rw [List.length_append, HLN.out]; rfl
          · have := HBL.out; omega
          · omega
          · rw [ivs_snoc]; exact HO1.out
          · have := HLE.out; have := HLT.out; omega
      · have et : (t == 1) = false := by simpa using ht
        have HQ2 := hid (HQ.out.other (k := (m, t)) ht)
        clear ht
        go_wp2
        go_roundg cn
        case measure => exact HLT.out
        case rel => exact ⟨l, _, q, d, n, rfl, HLN, HMX, HOX, HQ2, hid (by have := HLE.out; have := HLT.out; omega), HBX⟩
theorem members_any {w : World} {G : Nat} {O : Nat → Prop} {k : Nat} {s : Ls} (h : Lg w G O k s) (hk : k ≤ 1000000000000) :
    Calls Try.prog 9 #[.pointer (some ⟨G, 0, none⟩)] w fun e w' => ∃ l q d, e = .returned (.slice q (l : List Int).length d) ∧ Mb s l ∧ Uz w' q l ∧ l.length ≤ k ∧ Below w.heap.size w w' := by
  obtain ⟨B, P, p, c, h⟩ := h
  cases B with
  | none =>
    refine (members_none h).mono ?_
    rintro e w' ⟨rfl, hb⟩
    exact ⟨[], none, 0, rfl, ⟨List.nodup_nil, fun m h => (by cases h), fun m _ => ⟨fun h => (by cases h), fun e => (by rw [show s.f (m, 1) = none from h.bal _] at e; cases e)⟩⟩, fun i hi => (by simp at hi), Nat.zero_le _, hb⟩
  | some b => exact members_some h hk
end Go.Proofs.Ytphhllppgelceaa.Ac
namespace Go.Proofs.Ytphhllppgelceaa.Ac
open Go.RowKit Go.Deep Go.Maps Go.Proofs.Ytphhllppgelceaa.MonM
set_option linter.unusedVariables false
set_option linter.unusedSimpArgs false
set_option maxHeartbeats 8000000
set_option maxRecDepth 100000
attribute [local go_sem ↓] Go.wp_at_zero Go.wp_at_succ
/-- opened, and no more. -/
structure Nw (s : Ls) (ma ta bb : Int) : Prop where
  ma : s.ma = ma
  ta : s.ta = ta
  bb : s.bb = bb
  g : s.g = fun _ _ => po0
  es : s.es = []
  f : ∀ x v, s.f x = some v → v = 0 ∧ x.2 = 1 ∧ x.1 ≠ 0
theorem nl_open_g {w W : World} {G k : Nat} {s : Ls} {ma ta bb : Int} (h : Nl w W G k s) (hs : Nw s ma ta bb) (m : Int) (hm : U32 m) (hk : k < maxLen) : Calls Try.prog 20 #[.pointer (some ⟨G, 0, none⟩), .int .u32 m] W fun e w' => ∃ r s', e = .returned (.int .i64 r) ∧ Nl w w' G (k + 1) s' ∧ Nw s' ma ta bb := by
  have up : ∀ {U : World}, Nl w U G k s → Nl w U G (k + 1) s := fun {U} h => by
    obtain ⟨O, h1, h2, h3⟩ := h
    exact ⟨O, h1.mono (Nat.le_succ _), h2, h3⟩
  by_cases h0 : m = 0
  · subst h0
    exact open_zero.mono (fun e w' hh => ⟨1, s, hh.1, up (h.on hh.2), hs⟩)
  · cases hf : s.f (m, 1) with
    | none =>
      refine (nl_open h m hm h0 hf hk).mono (fun e w' hh => ⟨0, _, hh.1, hh.2, hs.ma, hs.ta, hs.bb, hs.g, hs.es, fun x v hx => ?_⟩)
      by_cases e : x = (m, 1)
      · subst e
        have hx : upd s.f (m, 1) 0 (m, 1) = some v := hx
        rw [upd_same] at hx
        cases hx
        exact ⟨rfl, rfl, h0⟩
      · have hx : upd s.f (m, 1) 0 x = some v := hx
        rw [upd_other _ _ e] at hx
        exact hs.f x v hx
    | some v =>
      obtain ⟨O, h1, h2, h3⟩ := id h
      exact (open_there h1 m hm h0 (by rw [hf]; rfl)).mono (fun e w' hh => ⟨81, s, hh.1, up (h.on hh.2), hs⟩)
theorem opened_g (ma ta bb : Int) (q : Option Addr) (c : Nat) (l : List Int) (w : World) (h0 : 0 ≤ ma) (h1 : 0 ≤ ta) (h2 : 0 < bb) (h3 : ma ≤ bb) (h4 : ta ≤ bb) (h5 : bb < 4294967296) (hu : Uz w q l) (hl : ∀ x ∈ l, U32 x) (hm : l.length ≤ 1048576) :
    Calls Try.prog 7 #[.agg #[.int .u32 ma, .int .u32 ta, .int .u32 bb], .slice q l.length c] w fun e w' => ∃ G s, e = .returned (.pointer (some ⟨G, 0, none⟩)) ∧ Nl w w' G l.length s ∧ Nw s ma ta bb := by
  obtain ⟨Wa, hWa⟩ : ∃ W, w.alloc (.cells #[.int .u32 ma, .int .u32 ta, .int .u32 bb] 24) = W := ⟨_, rfl⟩
  have HBA := hid (show Below w.heap.size w Wa from by rw [← hWa]; exact ball _ _)
  have hr : Wa.heap[w.heap.size]? = some (.cells #[.int .u32 ma, .int .u32 ta, .int .u32 bb] 24 (0, 0)) := by rw [← hWa]; exact World.alloc_heap_new _ _
  have c0 := row_cell hr 0
  have c1 := row_cell hr 1
  have c2 := row_cell hr 2
  simp only [List.getElem?_toArray, List.getElem?_cons_succ, List.getElem?_cons_zero] at c0 c1 c2
  have C := hid (nl_new ma ta bb Wa h0 h1 h2 h3 h4 h5)
  have HWa := hid hWa
  obtain ⟨n, hn⟩ : ∃ n, l.length = n := ⟨_, rfl⟩
  have HN := hid hn
  have HU := hid hu
  have HLX := hid hl
  have HW0 := hid (show Nw (ls0 ma ta bb) ma ta bb from ⟨rfl, rfl, rfl, rfl, rfl, fun x v h => by cases h⟩)
  rw [hn] at hm ⊢
  clear hWa hr h0 h1 h2 h3 h4 h5 hu hl hn
  go_enter Try.func7, Try.ntmps7
  go_upto_region 1 with fail
  rw [HWa.out]
  have pq : ∀ (B : Nat) (U : World), (binOp .eql 29 (.pointer (some ⟨B, 0, none⟩)) (.pointer none)).run Try.prog U = .ok (.bool false) U := fun B U => by kernel_rfl
  go_upto_region 5 with (go_at_call 19; with_reducible refine C.out.mono ?_; rintro e w1 ⟨G, rfl, hg⟩; have HG := hid hg; clear hg)
  clear c0 c1 c2 C HWa
  have HB1 := hid (show Nl w w1 G 0 (ls0 ma ta bb) from by
    obtain ⟨O, a1, a2, a3⟩ := HG.out
    exact ⟨O, a1, btr HBA.out a2, fun b hb => Nat.le_trans HBA.out.size (a3 b hb)⟩)
  go_loopw [7] (fun iv wr => ∃ i s, i ≤ n ∧ iv = .int .i64 (i : Nat) ∧ Hid (Nl w wr G i s) ∧ Hid (Nw s ma ta bb)) (fun iv _ => n - (intOf iv).toNat)
  case atStart => exact ⟨0, _, by omega, rfl, HB1, HW0⟩
  case round =>
    obtain ⟨i, s, hin, rfl, HE, HW⟩ := hrel
    clear HG HB1
    by_cases hlt : i < n
    · have hi : i < l.length := by rw [HN.out]; exact hlt
      obtain ⟨b, off, eq, a0⟩ := HU.out.at HE.out.below hi
      subst eq
      have CE := hid (nl_open_g HE.out HW.out l[i] (HLX.out _ (List.getElem_mem hi)) (by unfold maxLen; omega))
      obtain ⟨z, hz⟩ : ∃ z, l[i] = z := ⟨_, rfl⟩
      rw [hz] at a0 CE
      have i0 : (0 : Int) ≤ (i : Int) := by omega
      have i1 : (i : Int) < (n : Int) := by omega
      clear hz
      go_wp2_with (go_at_call 20; with_reducible refine (CE.out).mono ?_; rintro e w2 ⟨r, s', rfl, hg, hw⟩; have HG2 := hid hg; have HW2 := hid hw; clear hg hw)
      go_roundw
      case rel => exact ⟨i + 1, s', by omega, by go_num, HG2, HW2⟩
      case measure => simp [intOf]; omega
    · obtain rfl : i = n := by omega
      go_wp2
      go_ret
      exact ⟨G, s, rfl, HE.out, HW.out⟩
theorem Nw.fl {s : Ls} {ma ta bb : Int} (h : Nw s ma ta bb) : Fl s :=
  ⟨fun l _ i => by rw [h.g]; exact tot_zero l, fun m i => by rw [h.g]; exact sg0⟩
end Go.Proofs.Ytphhllppgelceaa.Ac
