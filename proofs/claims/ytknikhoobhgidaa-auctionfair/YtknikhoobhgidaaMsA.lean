/-
  AuctionMost: the walk.
-/
import Derived.Test.YtknikhoobhgidaaVoA
namespace Go.Proofs.Ytknikhoobhgidaa
open Go.RowKit Go.Deep Go.Shelf
set_option linter.unusedVariables false
set_option linter.unusedSimpArgs false
set_option maxHeartbeats 4000000
set_option maxRecDepth 100000
/-- prices that came in. -/
def Pz (w : World) (q : Option Addr) (l : List Int) : Prop := ∀ i (h : i < l.length), ∃ b off, q = some ⟨b, off, none⟩ ∧ b < w.heap.size ∧ w.cell? ⟨b, off + i, none⟩ = some (.int .i64 l[i])
theorem Pz.on {w w' : World} {q : Option Addr} {l : List Int} (h : Pz w q l) (hb : Below w.heap.size w w') : Pz w' q l := fun i hi => by
  obtain ⟨b, off, e, hlt, hc⟩ := h i hi
  exact ⟨b, off, e, Nat.lt_of_lt_of_le hlt hb.size, (hb.cell (p := ⟨b, off + i, none⟩) hlt).trans hc⟩
/-- a call that was made behind w, and those that it took. -/
structure Et (w U : World) (B : Nat) (r : Int) (b s T : List It) (pt : Option Addr) (ct : Nat) : Prop where
  ec : Ec w U B r b s
  li : Li U pt ct T
  pe : T.Perm (b ++ s)
theorem Et.on {w U V : World} {B : Nat} {r : Int} {b s T : List It} {pt : Option Addr} {ct : Nat} (h : Et w U B r b s T pt ct) (hb : Below U.heap.size U V) : Et w V B r b s T pt ct := ⟨h.ec.on hb, h.li.on hb, h.pe⟩
theorem Et.len {w U : World} {B : Nat} {r : Int} {b s T : List It} {pt : Option Addr} {ct : Nat} (h : Et w U B r b s T pt ct) : T.length ≤ 4096 := by
  obtain ⟨p1, c1, p2, c2, hc⟩ := h.ec.cl
  have := hc.mb
  have := h.pe.length_eq
  rw [List.length_append] at this
  omega
theorem Et.ok {w U : World} {B : Nat} {r : Int} {b s T : List It} {pt : Option Addr} {ct : Nat} (h : Et w U B r b s T pt ct) : ∀ x ∈ T, Ik 1 x ∨ Ik 2 x := by
  intro x hx
  obtain ⟨s1, s2⟩ := h.ec.sides
  rcases List.mem_append.1 (h.pe.mem_iff.1 hx) with hx | hx
  · exact .inl (s1.ok x hx)
  · exact .inr (s2.ok x hx)
theorem Et.volume {w U : World} {B : Nat} {r : Int} {b s T : List It} {pt : Option Addr} {ct : Nat} (h : Et w U B r b s T pt ct) (p : Int) :
    Calls Try.prog 12 #[.slice pt T.length ct, .int .i64 p] U fun e w' => e = .returned (.int .u64 (min (wd p b) (wd p s))) ∧ U = w' := by
  obtain ⟨s1, s2⟩ := h.ec.sides
  have := volume_any pt ct T p U h.li h.len h.ok
  rw [vol_perm h.pe, vol_sides s1 s2] at this
  exact this
theorem Et.quote {w U : World} {B : Nat} {r : Int} {b s T : List It} {pt : Option Addr} {ct : Nat} (h : Et w U B r b s T pt ct) : Calls Try.prog 11 #[.pointer (some ⟨B, 0, none⟩)] U fun e w' => e = .returned (.tuple #[.agg (qrow ((quo r b s).getD q0)), .bool (quo r b s).isSome]) ∧ Hid (Et w w' B r b s T pt ct) := by
  obtain ⟨p1, c1, p2, c2, hc⟩ := h.ec.cl
  exact (quote_any B r 4096 p1 c1 b p2 c2 s U hc).mono (fun e w' h1 => ⟨h1.1, hid (h.on h1.2)⟩)
theorem entered_et (r : Int) (q : Option Addr) (cap : Nat) (l : List It) (w U : World) (hU : Below w.heap.size w U) (h : Iz w q l) (hm : l.length ≤ maxLen) (hr : isP r = true) :
    Calls Try.prog 10 #[.int .i64 r, .slice q l.length cap] U fun e w' => ∃ B pt ct, e = .returned (.tuple #[.pointer (some ⟨B, 0, none⟩), .slice pt (etd 4096 l).2.2.length ct]) ∧ Hid (Et w w' B r (etd 4096 l).1 (etd 4096 l).2.1 (etd 4096 l).2.2 pt ct) :=
  (entered_ok r q cap l U (h.on hU) hm hr).mono (fun e w' hh => by
    obtain ⟨B, pt, ct, h1, h2⟩ := hh
    obtain ⟨p1, c1, p2, c2, hc, _⟩ := h2.cl
    exact ⟨B, pt, ct, h1, hid ⟨⟨⟨p1, c1, p2, c2, hc⟩, btr hU h2.be⟩, h2.li, etd_perm _ _⟩⟩)
theorem most_bad (r : Int) (q : Option Addr) (n cap : Nat) (q' : Option Addr) (n' cap' : Nat) (w : World) (hr : isP r = false) : Calls Try.prog 3 #[.int .i64 r, .slice q n cap, .slice q' n' cap'] w fun e w' => e = .returned (.bool true) ∧ Below w.heap.size w w' := by
  have CL := hid (fun U => lives_any U)
  have CE := hid (fun U => entered_bad r q n cap U hr)
  by_cases h0 : r < 0
  · go_enter Try.func3, Try.ntmps3
    go_wp2_with (first | (go_at_call 9; with_reducible refine (CL.out _).mono ?_; rintro e w1 ⟨rfl, hb⟩; have V1 := hid hb; clear hb) | (go_at_call 10; with_reducible refine (CE.out _).mono ?_; rintro e w2 ⟨rfl, rfl⟩))
    go_ret
    exact ⟨rfl, V1.out⟩
  · have h1 : 262144 ≤ r := by simp only [isP, decide_eq_false_iff_not] at hr; omega
    go_enter Try.func3, Try.ntmps3
    go_wp2_with (first | (go_at_call 9; with_reducible refine (CL.out _).mono ?_; rintro e w1 ⟨rfl, hb⟩; have V1 := hid hb; clear hb) | (go_at_call 10; with_reducible refine (CE.out _).mono ?_; rintro e w2 ⟨rfl, rfl⟩))
    go_ret
    exact ⟨rfl, V1.out⟩
theorem most_ok (r : Int) (q : Option Addr) (cap : Nat) (l : List It) (q' : Option Addr) (cap' : Nat) (ps : List Int) (w : World) (h : Iz w q l) (hm : l.length ≤ maxLen) (hp : Pz w q' ps) (hpm : ps.length ≤ maxLen) (hr : isP r = true) : Calls Try.prog 3 #[.int .i64 r, .slice q l.length cap, .slice q' ps.length cap'] w fun e w' => e = .returned (.bool true) ∧ Below w.heap.size w w' := by
  have CL := hid (fun U => lives_any U)
  have CE := hid (fun (U : World) (hU : Below w.heap.size w U) => entered_et r q cap l w U hU h hm hr)
  obtain ⟨xs, hxs⟩ : ∃ x, (etd 4096 l).1 = x := ⟨_, rfl⟩
  obtain ⟨ys, hys⟩ : ∃ x, (etd 4096 l).2.1 = x := ⟨_, rfl⟩
  obtain ⟨T, hT⟩ : ∃ x, (etd 4096 l).2.2 = x := ⟨_, rfl⟩
  rw [hxs, hys, hT] at CE
  obtain ⟨n, hn⟩ : ∃ n, l.length = n := ⟨_, rfl⟩
  rw [hn] at CE ⊢
  obtain ⟨nt, hnt⟩ : ∃ n, T.length = n := ⟨_, rfl⟩
  rw [hnt] at CE
  have HNT := hid hnt
  obtain ⟨np, hnp⟩ : ∃ n, ps.length = n := ⟨_, rfl⟩
  rw [hnp] at hpm ⊢
  have HNP := hid hnp
  have HP := hid hp
  unfold maxLen at hpm
  clear h hm hr hxs hys hn hT hnt hnp hp
  have pq := ptr_nil
  go_enter Try.func3, Try.ntmps3
  go_upto_region 6 with (first | (go_at_call 9; with_reducible refine (CL.out _).mono ?_; rintro e w1 ⟨rfl, hb⟩; have V1 := hid hb; clear hb) | (go_at_call 10; with_reducible refine (CE.out _ V1.out).mono ?_; rintro e w2 ⟨B, pt, ct, rfl, E2⟩))
  obtain ⟨s1, s2⟩ := E2.out.ec.sides
  have HM := hid (fun p => quo_most (r := r) s1 s2 p)
  have HLE := hid (fun p => (And.intro (wd_bound (p := p) s1).1 (wd_bound (p := p) s2).1))
  have CQ := hid (E2.out.quote)
  have hnt4 := E2.out.len
  rw [HNT.out] at hnt4
  have CV := hid (show ∀ (U : World), Et w U B r xs ys T pt ct → ∀ p, Calls Try.prog 12 #[.slice pt nt ct, .int .i64 p] U fun e w' => e = .returned (.int .u64 (min (wd p xs) (wd p ys))) ∧ U = w' from fun U hU p => by have := hU.volume p; rw [HNT.out] at this; exact this)
  clear s1 s2 CE CL
  cases hq : quo r xs ys with
  | none =>
    rw [hq] at CQ
    change Hid (Calls Try.prog 11 #[.pointer (some ⟨B, 0, none⟩)] w2 fun e w' => e = .returned (.tuple #[.agg #[.int .i64 0, .int .u64 0, .int .u64 0, .int .i64 0, .int .i64 0], .bool false]) ∧ Hid (Et w w' B r xs ys T pt ct)) at CQ
    have hmv : mvo r xs ys = 0 := by unfold mvo; rw [hq]
    rw [hmv] at HM
    clear hq hmv
    go_upto_region 7 with (go_at_call 11; with_reducible refine (CQ.out).mono ?_; rintro e w5 ⟨rfl, E5⟩)
    obtain ⟨X, hX⟩ : ∃ X, w5.alloc (.cells #[.int .i64 0, .int .u64 0, .int .u64 0, .int .i64 0, .int .i64 0] 30) = X := ⟨_, rfl⟩
    obtain ⟨α, hα⟩ : ∃ g, w5.heap.size = g := ⟨_, rfl⟩
    have BX := hid (show Below w5.heap.size w5 X from by rw [← hX]; exact ball _ _)
    rw [hX, hα]
    clear hX hα
    have EX := hid (E5.out.on BX.out)
    have CX := hid (CV.out X EX.out)
    clear CQ CV
    go_upto_region 13 with fail
    go_loopw [12] (fun iv wr => ∃ i : Nat, i ≤ nt ∧ iv = .int .i64 i ∧ Hid (X = wr)) (fun iv _ => nt - (intOf iv).toNat)
    case atStart => exact ⟨0, Nat.zero_le _, rfl, hid rfl⟩
    case round =>
      obtain ⟨i, hin, rfl, HW⟩ := hrel
      have hw := HW.out
      subst hw
      by_cases hlt : i < nt
      · have hi : i < T.length := by rw [HNT.out]; exact hlt
        obtain ⟨g, hg, a0, a1, a2, a3, a4, a5⟩ := EX.out.li.cells hi
        subst hg
        have hik := EX.out.ok T[i] (List.getElem_mem hi)
        obtain ⟨t, ht⟩ : ∃ z, T[i] = z := ⟨_, rfl⟩
        rw [ht] at a0 a1 a2 a3 a4 a5 hik
        have i0 : (0 : Int) ≤ (i : Int) := by omega
        have i1 : (i : Int) < (nt : Int) := by omega
        have tp : 0 ≤ t.pr ∧ t.pr < 262144 := by rcases hik with h | h; exact ⟨h.p0, h.p1⟩; exact ⟨h.p0, h.p1⟩
        clear ht hik
        go_upto_region 16 with fail
        go_loopw [13] (fun dv wr => ∃ d : Int, -1 ≤ d ∧ d ≤ 2 ∧ dv = .int .i64 d ∧ Hid (X = wr)) (fun dv _ => (2 - intOf dv).toNat)
        case atStart => exact ⟨-1, by omega, by omega, rfl, hid rfl⟩
        case round =>
          obtain ⟨d, hd0, hd1, rfl, HW⟩ := hrel
          have hw := HW.out
          subst hw
          by_cases hd : d ≤ 1
          · have wr1 : IntKind.i64.wrap (t.pr + d) = t.pr + d := by rw [IntKind.wrap_i64]; omega
            have CD := hid (CX.out (t.pr + d))
            have hle := HM.out (t.pr + d)
            obtain ⟨v, hv⟩ : ∃ v, min (wd (t.pr + d) xs) (wd (t.pr + d) ys) = v := ⟨_, rfl⟩
            rw [hv] at CD hle
            have d1 : decide (0 < v) = false := decide_eq_false (by omega)
            clear hv hle
            go_wp2_with (go_at_call 12; with_reducible refine (CD.out).mono ?_; rintro e w7 ⟨rfl, rfl⟩)
            go_roundw
            case rel => exact ⟨d + 1, by omega, by omega, by go_num, hid (by first | rfl | trivial)⟩
            case measure => simp [intOf]; omega
          · obtain rfl : d = 2 := by omega
            go_wp2
            go_roundw
            case rel => exact ⟨i + 1, by omega, by go_num, hid (by first | rfl | trivial)⟩
            case measure => simp [intOf]; omega
      · obtain rfl : i = nt := by omega
        go_upto_region 21 with fail
        go_loopw [14] (fun iv wr => ∃ i : Nat, i ≤ np ∧ iv = .int .i64 i ∧ Hid (X = wr)) (fun iv _ => np - (intOf iv).toNat)
        case atStart => exact ⟨0, Nat.zero_le _, rfl, hid rfl⟩
        case round =>
          obtain ⟨j, hjn, rfl, HW⟩ := hrel
          have hw := HW.out
          subst hw
          by_cases hlt : j < np
          · have hj : j < ps.length := by rw [HNP.out]; exact hlt
            obtain ⟨b, off, hq', _, a0⟩ := (HP.out.on EX.out.ec.be) j hj
            subst hq'
            obtain ⟨c, hc⟩ : ∃ z, ps[j] = z := ⟨_, rfl⟩
            rw [hc] at a0
            have j0 : (0 : Int) ≤ (j : Int) := by omega
            have j1 : (j : Int) < (np : Int) := by omega
            have CD := hid (CX.out c)
            have hle := HM.out c
            obtain ⟨v, hv⟩ : ∃ v, min (wd c xs) (wd c ys) = v := ⟨_, rfl⟩
            rw [hv] at CD hle
            have d1 : decide (0 < v) = false := decide_eq_false (by omega)
            clear hv hle hc
            go_wp2_with (go_at_call 12; with_reducible refine (CD.out).mono ?_; rintro e w7 ⟨rfl, rfl⟩)
            go_roundw
            case rel => exact ⟨j + 1, by omega, by go_num, hid (by first | rfl | trivial)⟩
            case measure => simp [intOf]; omega
          · obtain rfl : j = np := by omega
            have CD := hid (CX.out r)
            have hle := HM.out r
            obtain ⟨v, hv⟩ : ∃ v, min (wd r xs) (wd r ys) = v := ⟨_, rfl⟩
            rw [hv] at CD hle
            clear hv
            go_wp2_with (go_at_call 12; with_reducible refine (CD.out).mono ?_; rintro e w7 ⟨rfl, rfl⟩)
            go_ret
            exact ⟨by simp [hle], EX.out.ec.be⟩
  | some z =>
    rw [hq] at CQ
    change Hid (Calls Try.prog 11 #[.pointer (some ⟨B, 0, none⟩)] w2 fun e w' => e = .returned (.tuple #[.agg #[.int .i64 z.pr, .int .u64 z.vo, .int .u64 z.su, .int .i64 z.sd, .int .i64 z.ru], .bool true]) ∧ Hid (Et w w' B r xs ys T pt ct)) at CQ
    have hmv : mvo r xs ys = z.vo := by unfold mvo; rw [hq]
    rw [hmv] at HM
    obtain ⟨p, _, k, hz, _, hne⟩ := quo_at hq
    have CP := hid (fun (U : World) (hU : Et w U B r xs ys T pt ct) => CV.out U hU z.pr)
    have hvo : min (wd z.pr xs) (wd z.pr ys) = z.vo := by
      have e1 : z.pr = p := by rw [hz]; exact qAt_pr _ _ _
      rw [e1, hz]
      exact (qAt_vo (p := p)).symm
    rw [hvo] at CP
    have c1 : (z.vo != z.vo) = false := by simp
    have c2 : (z.vo == 0) = false := by simpa using hne
    clear hq hmv hz hvo hne
    go_upto_region 7 with (go_at_call 11; with_reducible refine (CQ.out).mono ?_; rintro e w5 ⟨rfl, E5⟩)
    obtain ⟨X, hX⟩ : ∃ X, w5.alloc (.cells #[.int .i64 z.pr, .int .u64 z.vo, .int .u64 z.su, .int .i64 z.sd, .int .i64 z.ru] 30) = X := ⟨_, rfl⟩
    obtain ⟨α, hα⟩ : ∃ g, w5.heap.size = g := ⟨_, rfl⟩
    have BX := hid (show Below w5.heap.size w5 X from by rw [← hX]; exact ball _ _)
    have HA := hid (show X.heap[α]? = some (.cells #[.int .i64 z.pr, .int .u64 z.vo, .int .u64 z.su, .int .i64 z.sd, .int .i64 z.ru] 30 (0, 0)) from by rw [← hX, ← hα]; exact World.alloc_heap_new _ _)
    rw [hX, hα]
    clear hX hα
    have EX := hid (E5.out.on BX.out)
    have CX := hid (CV.out X EX.out)
    obtain ⟨z0, z1, z2, z3, z4⟩ := row5 HA.out
    have CPX := hid (CP.out X EX.out)
    clear CQ CV CP
    go_upto_region 13 with (go_at_call 12; with_reducible refine (CPX.out).mono ?_; rintro e w6 ⟨rfl, rfl⟩)
    clear z0 z1 z2 z3 z4 c1 c2
    go_loopw [12] (fun iv wr => ∃ i : Nat, i ≤ nt ∧ iv = .int .i64 i ∧ Hid (X = wr)) (fun iv _ => nt - (intOf iv).toNat)
    case atStart => exact ⟨0, Nat.zero_le _, rfl, hid rfl⟩
    case round =>
      obtain ⟨i, hin, rfl, HW⟩ := hrel
      have hw := HW.out
      subst hw
      by_cases hlt : i < nt
      · have hi : i < T.length := by rw [HNT.out]; exact hlt
        obtain ⟨g, hg, a0, a1, a2, a3, a4, a5⟩ := EX.out.li.cells hi
        subst hg
        have hik := EX.out.ok T[i] (List.getElem_mem hi)
        obtain ⟨t, ht⟩ : ∃ z, T[i] = z := ⟨_, rfl⟩
        rw [ht] at a0 a1 a2 a3 a4 a5 hik
        have i0 : (0 : Int) ≤ (i : Int) := by omega
        have i1 : (i : Int) < (nt : Int) := by omega
        have tp : 0 ≤ t.pr ∧ t.pr < 262144 := by rcases hik with h | h; exact ⟨h.p0, h.p1⟩; exact ⟨h.p0, h.p1⟩
        clear ht hik
        go_upto_region 16 with fail
        go_loopw [13] (fun dv wr => ∃ d : Int, -1 ≤ d ∧ d ≤ 2 ∧ dv = .int .i64 d ∧ Hid (X = wr)) (fun dv _ => (2 - intOf dv).toNat)
        case atStart => exact ⟨-1, by omega, by omega, rfl, hid rfl⟩
        case round =>
          obtain ⟨d, hd0, hd1, rfl, HW⟩ := hrel
          have hw := HW.out
          subst hw
          by_cases hd : d ≤ 1
          · have wr1 : IntKind.i64.wrap (t.pr + d) = t.pr + d := by rw [IntKind.wrap_i64]; omega
            have CD := hid (CX.out (t.pr + d))
            have hle := HM.out (t.pr + d)
            obtain ⟨v, hv⟩ : ∃ v, min (wd (t.pr + d) xs) (wd (t.pr + d) ys) = v := ⟨_, rfl⟩
            rw [hv] at CD hle
            have d1 : decide (z.vo < v) = false := decide_eq_false (by omega)
            clear hv hle
            go_wp2_with (go_at_call 12; with_reducible refine (CD.out).mono ?_; rintro e w7 ⟨rfl, rfl⟩)
            go_roundw
            case rel => exact ⟨d + 1, by omega, by omega, by go_num, hid (by first | rfl | trivial)⟩
            case measure => simp [intOf]; omega
          · obtain rfl : d = 2 := by omega
            go_wp2
            go_roundw
            case rel => exact ⟨i + 1, by omega, by go_num, hid (by first | rfl | trivial)⟩
            case measure => simp [intOf]; omega
      · obtain rfl : i = nt := by omega
        go_upto_region 21 with fail
        go_loopw [14] (fun iv wr => ∃ i : Nat, i ≤ np ∧ iv = .int .i64 i ∧ Hid (X = wr)) (fun iv _ => np - (intOf iv).toNat)
        case atStart => exact ⟨0, Nat.zero_le _, rfl, hid rfl⟩
        case round =>
          obtain ⟨j, hjn, rfl, HW⟩ := hrel
          have hw := HW.out
          subst hw
          by_cases hlt : j < np
          · have hj : j < ps.length := by rw [HNP.out]; exact hlt
            obtain ⟨b, off, hq', _, a0⟩ := (HP.out.on EX.out.ec.be) j hj
            subst hq'
            obtain ⟨c, hc⟩ : ∃ z, ps[j] = z := ⟨_, rfl⟩
            rw [hc] at a0
            have j0 : (0 : Int) ≤ (j : Int) := by omega
            have j1 : (j : Int) < (np : Int) := by omega
            have CD := hid (CX.out c)
            have hle := HM.out c
            obtain ⟨v, hv⟩ : ∃ v, min (wd c xs) (wd c ys) = v := ⟨_, rfl⟩
            rw [hv] at CD hle
            have d1 : decide (z.vo < v) = false := decide_eq_false (by omega)
            clear hv hle hc
            go_wp2_with (go_at_call 12; with_reducible refine (CD.out).mono ?_; rintro e w7 ⟨rfl, rfl⟩)
            go_roundw
            case rel => exact ⟨j + 1, by omega, by go_num, hid (by first | rfl | trivial)⟩
            case measure => simp [intOf]; omega
          · obtain rfl : j = np := by omega
            have CD := hid (CX.out r)
            have hle := HM.out r
            obtain ⟨v, hv⟩ : ∃ v, min (wd r xs) (wd r ys) = v := ⟨_, rfl⟩
            rw [hv] at CD hle
            clear hv
            go_wp2_with (go_at_call 12; with_reducible refine (CD.out).mono ?_; rintro e w7 ⟨rfl, rfl⟩)
            go_ret
            exact ⟨by simp [hle], EX.out.ec.be⟩
theorem most_walk (r : Int) (q : Option Addr) (cap : Nat) (l : List It) (q' : Option Addr) (cap' : Nat) (ps : List Int) (w : World) (h : Iz w q l) (hm : l.length ≤ maxLen) (hp : Pz w q' ps) (hpm : ps.length ≤ maxLen) : Calls Try.prog 3 #[.int .i64 r, .slice q l.length cap, .slice q' ps.length cap'] w fun e w' => e = .returned (.bool true) ∧ Below w.heap.size w w' := by
  cases hr : isP r with
  | false => exact most_bad r q l.length cap q' ps.length cap' w hr
  | true => exact most_ok r q cap l q' cap' ps w h hm hp hpm hr
end Go.Proofs.Ytknikhoobhgidaa
