/-
  AuctionFair: the walk.
-/
import Derived.Test.YtknikhoobhgidaaFrU
namespace Go.Proofs.Ytknikhoobhgidaa
open Go.RowKit Go.Deep Go.Shelf
set_option linter.unusedVariables false
set_option linter.unusedSimpArgs false
set_option maxHeartbeats 8000000
set_option maxRecDepth 100000
/-- a call that was made behind w, and two lists of interests apart from it. -/
structure Fb (w U : World) (B : Nat) (r : Int) (b s : List It) (pa : Option Addr) (ca : Nat) (b0 : List It) (pb : Option Addr) (cb : Nat) (s0 : List It) : Prop where
  cl : ∃ p1 c1 p2 c2, Cl U B r 4096 p1 c1 b p2 c2 s ∧ (∀ g, OfP p1 g ∨ OfP p2 g → w.heap.size ≤ g) ∧ ∀ g, OfP pa g ∨ OfP pb g → g ≠ B ∧ ¬ (OfP p1 g ∨ OfP p2 g)
  gb : w.heap.size ≤ B
  be : Below w.heap.size w U
  la : Li U pa ca b0
  lb : Li U pb cb s0
theorem Fb.on {w U V : World} {B : Nat} {r : Int} {b s : List It} {pa : Option Addr} {ca : Nat} {b0 : List It} {pb : Option Addr} {cb : Nat} {s0 : List It} (h : Fb w U B r b s pa ca b0 pb cb s0) (hb : Below U.heap.size U V) : Fb w V B r b s pa ca b0 pb cb s0 := by
  obtain ⟨p1, c1, p2, c2, hc, hg, ha⟩ := h.cl
  exact ⟨⟨p1, c1, p2, c2, hc.on hb, hg, ha⟩, h.gb, btr h.be hb, h.la.on hb, h.lb.on hb⟩
theorem Fb.ec {w U : World} {B : Nat} {r : Int} {b s : List It} {pa : Option Addr} {ca : Nat} {b0 : List It} {pb : Option Addr} {cb : Nat} {s0 : List It} (h : Fb w U B r b s pa ca b0 pb cb s0) : Ec w U B r b s := by
  obtain ⟨p1, c1, p2, c2, hc, _⟩ := h.cl
  exact ⟨⟨p1, c1, p2, c2, hc⟩, h.be⟩
theorem Eg.fb {w U V : World} {B : Nat} {r : Int} {b s : List It} {pa : Option Addr} {ca : Nat} {pb : Option Addr} {cb : Nat} (h : Eg w U B r b s) (hV : Below U.heap.size U V) (la : Li V pa ca b) (lb : Li V pb cb s) (ha : ∀ g, OfP pa g → U.heap.size ≤ g) (hb : ∀ g, OfP pb g → U.heap.size ≤ g) : Fb w V B r b s pa ca b pb cb s := by
  obtain ⟨p1, c1, p2, c2, hc, hg⟩ := h.cl
  refine ⟨⟨p1, c1, p2, c2, hc.on hV, hg, fun g hh => ?_⟩, h.gb, btr h.be hV, la, lb⟩
  have h1 : U.heap.size ≤ g := hh.elim (ha g) (hb g)
  have h2 := row_lt hc.row
  refine ⟨fun e => by omega, fun e => ?_⟩
  have : g < U.heap.size := by
    rcases e with e | e
    · obtain ⟨cu, hcu⟩ := hc.l1.ty e; exact row_lt hcu
    · obtain ⟨cu, hcu⟩ := hc.l2.ty e; exact row_lt hcu
  omega
theorem Fb.unone {w U : World} {B : Nat} {r : Int} {b s : List It} {pa : Option Addr} {ca : Nat} {b0 : List It} {pb : Option Addr} {cb : Nat} {s0 : List It} (h : Fb w U B r b s pa ca b0 pb cb s0) (hq : quo r b s = none) : Calls Try.prog 14 #[.pointer (some ⟨B, 0, none⟩)] U fun e w' => e = .returned (.tuple #[.slice none 0 0, .agg #[.int .i64 0, .int .u64 0, .int .u64 0, .int .i64 0, .int .i64 0], .bool false]) ∧ Hid (Fb w w' B r b s pa ca b0 pb cb s0) := by
  obtain ⟨p1, c1, p2, c2, hc, _⟩ := h.cl
  exact (uncross_none B r 4096 p1 c1 b p2 c2 s U hc hq).mono (fun e w' h1 => ⟨h1.1, hid (h.on h1.2)⟩)
theorem Fb.usome {w U : World} {B : Nat} {r : Int} {b s : List It} {pa : Option Addr} {ca : Nat} {b0 : List It} {pb : Option Addr} {cb : Nat} {s0 : List It} {z : Qt} (h : Fb w U B r b s pa ca b0 pb cb s0) (hq : quo r b s = some z) : Calls Try.prog 14 #[.pointer (some ⟨B, 0, none⟩)] U fun e w' => ∃ pf cf, e = .returned (.tuple #[.slice pf (trd z.pr (b.length + s.length) z.vo b s).1.length cf, .agg #[.int .i64 z.pr, .int .u64 z.vo, .int .u64 z.su, .int .i64 z.sd, .int .i64 z.ru], .bool true]) ∧ Hid (Fz w' pf cf (trd z.pr (b.length + s.length) z.vo b s).1) ∧ Hid (Fb w w' B r (rml z.vo b) (rml z.vo s) pa ca b0 pb cb s0) := by
  obtain ⟨p1, c1, p2, c2, hc, hg, ha⟩ := h.cl
  have hr := trd_rml (P := z.pr) (b.length + s.length) z.vo b s hc.s1 hc.s2 (quo_vg hc.s1 hc.s2 hq) (Nat.le_refl _)
  refine (uncross_some B r 4096 p1 c1 b p2 c2 s z U hc hq).mono ?_
  rintro e w' ⟨pf, cf, h1, h2, h3, h4⟩
  rw [hr.1, hr.2] at h3
  have hb : ∀ g, OfP pa g ∨ OfP pb g → ¬ (g = B ∨ OfP p1 g ∨ OfP p2 g) := fun g hh e => e.elim (ha g hh).1 (ha g hh).2
  refine ⟨pf, cf, h1, hid (own_base h2 (Nat.zero_le _)), hid ⟨⟨p1, c1, p2, c2, h3, hg, ha⟩, h.gb, h.be.trans (h4.below h.be.size (fun g hlt e => ?_)), h.la.kept h4 (fun g hh => hb g (.inl hh)), h.lb.kept h4 (fun g hh => hb g (.inr hh))⟩⟩
  have := h.gb
  rcases e with e | e
  · omega
  · have := hg g e; omega
theorem fair_bad (r : Int) (q : Option Addr) (n cap : Nat) (w : World) (hr : isP r = false) : Calls Try.prog 4 #[.int .i64 r, .slice q n cap] w fun e w' => e = .returned (.bool true) ∧ Below w.heap.size w w' := by
  have CL := hid (fun U => lives_any U)
  have CE := hid (fun U => entered_bad r q n cap U hr)
  by_cases h0 : r < 0
  · go_enter Try.func4, Try.ntmps4
    go_wp2_with (first | (go_at_call 9; with_reducible refine (CL.out _).mono ?_; rintro e w1 ⟨rfl, hb⟩; have V1 := hid hb; clear hb) | (go_at_call 10; with_reducible refine (CE.out _).mono ?_; rintro e w2 ⟨rfl, rfl⟩))
    go_ret
    exact ⟨rfl, V1.out⟩
  · have h1 : 262144 ≤ r := by simp only [isP, decide_eq_false_iff_not] at hr; omega
    go_enter Try.func4, Try.ntmps4
    go_wp2_with (first | (go_at_call 9; with_reducible refine (CL.out _).mono ?_; rintro e w1 ⟨rfl, hb⟩; have V1 := hid hb; clear hb) | (go_at_call 10; with_reducible refine (CE.out _).mono ?_; rintro e w2 ⟨rfl, rfl⟩))
    go_ret
    exact ⟨rfl, V1.out⟩
theorem fair_ok (r : Int) (q : Option Addr) (cap : Nat) (l : List It) (w : World) (h : Iz w q l) (hm : l.length ≤ maxLen) (hr : isP r = true) : Calls Try.prog 4 #[.int .i64 r, .slice q l.length cap] w fun e w' => e = .returned (.bool true) ∧ Below w.heap.size w w' := by
  have CL := hid (fun U => lives_any U)
  have CE := hid (fun (U : World) (hU : Below w.heap.size w U) => entered_eg r q cap l w U hU h hm hr)
  have HND := hid (etd_nd l)
  obtain ⟨xs, hxs⟩ : ∃ x, (etd 4096 l).1 = x := ⟨_, rfl⟩
  obtain ⟨ys, hys⟩ : ∃ x, (etd 4096 l).2.1 = x := ⟨_, rfl⟩
  rw [hxs, hys] at CE HND
  obtain ⟨n, hn⟩ : ∃ n, l.length = n := ⟨_, rfl⟩
  rw [hn] at CE ⊢
  clear h hm hr hxs hys hn
  have pq := ptr_nil
  go_enter Try.func4, Try.ntmps4
  go_upto_region 6 with (first | (go_at_call 9; with_reducible refine (CL.out _).mono ?_; rintro e w1 ⟨rfl, hb⟩; have V1 := hid hb; clear hb) | (go_at_call 10; with_reducible refine (CE.out _ V1.out).mono ?_; rintro e w2 ⟨B, pt0, nt0, ct0, rfl, HNT, E2⟩))
  obtain ⟨s1, s2⟩ := E2.out.ec.sides
  have HSD := hid (And.intro s1 s2)
  obtain ⟨p1, c1, p2, c2, hc, _⟩ := E2.out.cl
  have hmb := hc.mb
  have hmb4 : xs.length + ys.length ≤ 4096 := by omega
  have HM4 := hid hmb4
  clear hc s1 s2 CE CL hmb
  have CI := hid (E2.out.ec.int1)
  have CJ := hid (fun (U : World) (hU : Below w2.heap.size w2 U) => (E2.out.ec.on hU).int2)
  obtain ⟨nb, hnb⟩ : ∃ n, xs.length = n := ⟨_, rfl⟩
  obtain ⟨ns, hns⟩ : ∃ n, ys.length = n := ⟨_, rfl⟩
  rw [hnb] at CI hmb4 HNT
  rw [hns] at CJ hmb4 HNT
  have HLN := hid (And.intro hnb hns)
  clear hnb hns
  go_upto_region 7 with (first | (go_at_call 13; with_reducible refine (CI.out).mono ?_; rintro e w3 ⟨pa, ca, rfl, I1, I2, I3⟩) | (go_at_call 13; with_reducible refine (CJ.out _ I2.out).mono ?_; rintro e w4 ⟨pb, cb, rfl, J1, J2, J3⟩))
  have E4 := hid (E2.out.fb (btr I2.out J2.out) (I1.out.on J2.out) J1.out I3.out (fun g hg => Nat.le_trans I2.out.size (J3.out g hg)))
  have nn : ((nb : Int) + (ns : Int) != (nt0 : Int)) = false := by have := HNT.out; simp; omega
  have wn : IntKind.i64.wrap ((nb : Int) + (ns : Int)) = (nb : Int) + (ns : Int) := by rw [IntKind.wrap_i64]; omega
  clear CI CJ I1 I2 I3 J1 J2 J3
  cases hq : quo r xs ys with
  | none =>
    have CU := hid (E4.out.unone hq)
    clear hq
    go_upto_region 8 with (go_at_call 14; with_reducible refine (CU.out).mono ?_; rintro e w5 ⟨rfl, E5⟩)
    obtain ⟨Y, hY⟩ : ∃ X, w5.alloc (.cells #[.int .i64 0, .int .u64 0, .int .u64 0, .int .i64 0, .int .i64 0] 30) = X := ⟨_, rfl⟩
    have EY := hid (show Fb w Y B r xs ys pa ca xs pb cb ys from by rw [← hY]; exact E5.out.on (ball _ _))
    rw [hY]
    clear hY CU
    have CI := hid (show ∀ U, Below Y.heap.size Y U → Calls Try.prog 13 #[.pointer (some ⟨B, 0, none⟩), .int .i64 1] U fun e w' => ∃ p' c', e = .returned (.slice p' nb c') ∧ Hid (Li w' p' c' xs) ∧ Hid (Below Y.heap.size Y w') from fun U hU => by
      have := (EY.out.on hU).ec.int1
      rw [HLN.out.1] at this
      exact this.mono (fun e w' ⟨p', c', h1, h2, h3, _⟩ => ⟨p', c', h1, h2, hid (btr hU h3.out)⟩))
    have CJ := hid (show ∀ U, Below Y.heap.size Y U → Calls Try.prog 13 #[.pointer (some ⟨B, 0, none⟩), .int .i64 2] U fun e w' => ∃ p' c', e = .returned (.slice p' ns c') ∧ Hid (Li w' p' c' ys) ∧ Hid (Below Y.heap.size Y w') from fun U hU => by
      have := (EY.out.on hU).ec.int2
      rw [HLN.out.2] at this
      exact this.mono (fun e w' ⟨p', c', h1, h2, h3, _⟩ => ⟨p', c', h1, h2, hid (btr hU h3.out)⟩))
    have CS := hid (show ∀ U p' c', Below Y.heap.size Y U → Li U p' c' xs → Calls Try.prog 15 #[.slice p' nb c', .slice pa nb ca] U fun e w' => e = .returned (.bool true) ∧ Hid (Below Y.heap.size Y w') from fun U p' c' hU hL => by
      have := its_same p' pa c' ca xs U hL (EY.out.la.on hU) (by have := HM4.out; omega)
      rw [HLN.out.1] at this
      exact this.mono (fun e w' ⟨h1, h2⟩ => ⟨h1, hid (btr hU h2)⟩))
    have CT := hid (show ∀ U p' c', Below Y.heap.size Y U → Li U p' c' ys → Calls Try.prog 15 #[.slice p' ns c', .slice pb ns cb] U fun e w' => e = .returned (.bool true) ∧ Hid (Below Y.heap.size Y w') from fun U p' c' hU hL => by
      have := its_same p' pb c' cb ys U hL (EY.out.lb.on hU) (by have := HM4.out; omega)
      rw [HLN.out.2] at this
      exact this.mono (fun e w' ⟨h1, h2⟩ => ⟨h1, hid (btr hU h2)⟩))
    have HYY := hid (Below.refl Y.heap.size Y)
    go_wp2_with (first | (go_at_call 13; with_reducible refine (CI.out _ HYY.out).mono ?_; rintro e v1 ⟨p7, c7, rfl, L7, V1⟩) | (go_at_call 15; with_reducible refine (CS.out _ p7 c7 V1.out L7.out).mono ?_; rintro e v2 ⟨rfl, V2⟩) | (go_at_call 13; with_reducible refine (CJ.out _ V2.out).mono ?_; rintro e v3 ⟨p8, c8, rfl, L8, V3⟩) | (go_at_call 15; with_reducible refine (CT.out _ p8 c8 V3.out L8.out).mono ?_; rintro e v4 ⟨rfl, V4⟩))
    go_ret
    exact ⟨rfl, btr EY.out.be V4.out⟩
  | some z =>
    have CU := hid (E4.out.usome hq)
    have HPR := hid (prt_of HSD.out.1 HSD.out.2 HND.out.1 HND.out.2 hq)
    have HFI := hid (fun x hx => trd_fills (P := z.pr) (xs.length + ys.length) z.vo xs ys HSD.out.1 HSD.out.2 x hx)
    have hfl := trd_flen (P := z.pr) (xs.length + ys.length) z.vo xs ys
    obtain ⟨F, hF⟩ : ∃ F, (trd z.pr (xs.length + ys.length) z.vo xs ys).1 = F := ⟨_, rfl⟩
    rw [hF] at CU HPR HFI hfl
    obtain ⟨nf, hnf⟩ : ∃ n, F.length = n := ⟨_, rfl⟩
    rw [hnf] at CU
    have HNF := hid hnf
    have hnf4 : nf ≤ 4096 := by have := HM4.out; omega
    have HN4 := hid hnf4
    clear hq hF hnf hfl
    go_upto_region 8 with (go_at_call 14; with_reducible refine (CU.out).mono ?_; rintro e w5 ⟨pf, cf, rfl, F5, E5⟩)
    obtain ⟨Y, hY⟩ : ∃ X, w5.alloc (.cells #[.int .i64 z.pr, .int .u64 z.vo, .int .u64 z.su, .int .i64 z.sd, .int .i64 z.ru] 30) = X := ⟨_, rfl⟩
    obtain ⟨R, hR⟩ : ∃ g, w5.heap.size = g := ⟨_, rfl⟩
    have EY := hid (show Fb w Y B r (rml z.vo xs) (rml z.vo ys) pa ca xs pb cb ys from by rw [← hY]; exact E5.out.on (ball _ _))
    have FY := hid (show Fz Y pf cf F from by rw [← hY]; exact F5.out.on (ball _ _))
    have HS := hid (show ∀ U, Below Y.heap.size Y U → U.cell? ⟨R, 0, none⟩ = some (.int .i64 z.pr) ∧ U.cell? ⟨R, 1, none⟩ = some (.int .u64 z.vo) ∧ U.cell? ⟨R, 2, none⟩ = some (.int .u64 z.su) ∧ U.cell? ⟨R, 3, none⟩ = some (.int .i64 z.sd) ∧ U.cell? ⟨R, 4, none⟩ = some (.int .i64 z.ru) from fun U hU => by
      have a : Y.heap[R]? = some (.cells #[.int .i64 z.pr, .int .u64 z.vo, .int .u64 z.su, .int .i64 z.sd, .int .i64 z.ru] 30 (0, 0)) := by rw [← hY, ← hR]; exact World.alloc_heap_new _ _
      exact row5 (row_on a hU))
    rw [hY, hR]
    clear hY hR CU
    obtain ⟨nr, hnr⟩ : ∃ n, (rml z.vo xs).length = n := ⟨_, rfl⟩
    obtain ⟨nt, hnt⟩ : ∃ n, (rml z.vo ys).length = n := ⟨_, rfl⟩
    have CI := hid (show ∀ U, Below Y.heap.size Y U → Calls Try.prog 13 #[.pointer (some ⟨B, 0, none⟩), .int .i64 1] U fun e w' => ∃ p' c', e = .returned (.slice p' nr c') ∧ Hid (Li w' p' c' (rml z.vo xs)) ∧ Hid (Below Y.heap.size Y w') from fun U hU => by
      have := (EY.out.on hU).ec.int1
      rw [hnr] at this
      exact this.mono (fun e w' ⟨p', c', h1, h2, h3, _⟩ => ⟨p', c', h1, h2, hid (btr hU h3.out)⟩))
    have CJ := hid (show ∀ U, Below Y.heap.size Y U → Calls Try.prog 13 #[.pointer (some ⟨B, 0, none⟩), .int .i64 2] U fun e w' => ∃ p' c', e = .returned (.slice p' nt c') ∧ Hid (Li w' p' c' (rml z.vo ys)) ∧ Hid (Below Y.heap.size Y w') from fun U hU => by
      have := (EY.out.on hU).ec.int2
      rw [hnt] at this
      exact this.mono (fun e w' ⟨p', c', h1, h2, h3, _⟩ => ⟨p', c', h1, h2, hid (btr hU h3.out)⟩))
    have hl1 := rml_len (l := xs) (V := z.vo)
    have hl2 := rml_len (l := ys) (V := z.vo)
    have CF := hid (show ∀ U p' c', Below Y.heap.size Y U → Li U p' c' (rml z.vo xs) → Calls Try.prog 16 #[.slice pa nb ca, .slice p' nr c', .slice pf nf cf, .agg #[.int .i64 z.pr, .int .u64 z.vo, .int .u64 z.su, .int .i64 z.sd, .int .i64 z.ru], .int .i64 1] U fun e w' => e = .returned (.bool true) ∧ Hid (Below Y.heap.size Y w') from fun U p' c' hU hL => by
      have := fair_any pa p' pf ca c' cf xs (rml z.vo xs) F z 1 U (EY.out.la.on hU) hL (FY.out.on hU) HPR.out.1 (.inl rfl) (by have := HM4.out; omega) (by rw [HNF.out]; have := HN4.out; omega) (fun f hf => ⟨by have := (HFI.out f hf).2.1; omega, (HFI.out f hf).2.2⟩)
      rw [HLN.out.1, HNF.out, hnr] at this
      exact this.mono (fun e w' ⟨h1, h2⟩ => ⟨h1, hid (btr hU h2)⟩))
    have CG := hid (show ∀ U p' c', Below Y.heap.size Y U → Li U p' c' (rml z.vo ys) → Calls Try.prog 16 #[.slice pb ns cb, .slice p' nt c', .slice pf nf cf, .agg #[.int .i64 z.pr, .int .u64 z.vo, .int .u64 z.su, .int .i64 z.sd, .int .i64 z.ru], .int .i64 2] U fun e w' => e = .returned (.bool true) ∧ Hid (Below Y.heap.size Y w') from fun U p' c' hU hL => by
      have := fair_any pb p' pf cb c' cf ys (rml z.vo ys) F z 2 U (EY.out.lb.on hU) hL (FY.out.on hU) HPR.out.2 (.inr rfl) (by have := HM4.out; omega) (by rw [HNF.out]; have := HN4.out; omega) (fun f hf => ⟨by have := (HFI.out f hf).2.1; omega, (HFI.out f hf).2.2⟩)
      rw [HLN.out.2, HNF.out, hnt] at this
      exact this.mono (fun e w' ⟨h1, h2⟩ => ⟨h1, hid (btr hU h2)⟩))
    clear hnr hnt hl1 hl2 HPR
    go_upto_region 13 with fail
    go_loopw [12] (fun iv wr => ∃ i : Nat, i ≤ nf ∧ iv = .int .i64 i ∧ Hid (Below Y.heap.size Y wr)) (fun iv _ => nf - (intOf iv).toNat)
    case atStart => exact ⟨0, Nat.zero_le _, rfl, hid (Below.refl _ _)⟩
    case round =>
      obtain ⟨i, hin, rfl, HB⟩ := hrel
      by_cases hlt : i < nf
      · have hi : i < F.length := by rw [HNF.out]; exact hlt
        obtain ⟨g, hg, a0, a1, a2, a3⟩ := (FY.out.on HB.out).cells hi
        subst hg
        have hfi := HFI.out F[i] (List.getElem_mem hi)
        obtain ⟨y, hy⟩ : ∃ y, F[i] = y := ⟨_, rfl⟩
        rw [hy] at a0 a1 a2 a3 hfi
        rw [hfi.1] at a2
        have t1 : (y.qt == 0) = false := by have := hfi.2.1; simp; omega
        have t2 : (z.pr != z.pr) = false := by simp
        obtain ⟨k0, k1, k2, k3, k4⟩ := HS.out wr HB.out
        have i0 : (0 : Int) ≤ (i : Int) := by omega
        have i1 : (i : Int) < (nf : Int) := by omega
        clear hy hfi
        go_upto_region 15 with fail
        go_quiet (fail)
        go_wp2
        go_roundw
        case rel => exact ⟨i + 1, by omega, by go_num, hid (btr HB.out (bdrew _ _))⟩
        case measure => simp [intOf]; omega
      · obtain rfl : i = nf := by omega
        have HBD := hid (btr HB.out (bdrew1 wr))
        obtain ⟨k0, k1, k2, k3, k4⟩ := HS.out wr HB.out
        go_upto_region 17 with fail
        go_region_held3 (fun U => U.cell? ⟨R, 0, none⟩ = some (.int .i64 z.pr) ∧ U.cell? ⟨R, 1, none⟩ = some (.int .u64 z.vo) ∧ U.cell? ⟨R, 2, none⟩ = some (.int .u64 z.su) ∧ U.cell? ⟨R, 3, none⟩ = some (.int .i64 z.sd) ∧ U.cell? ⟨R, 4, none⟩ = some (.int .i64 z.ru)) (go_keep) (first | (go_at_call 13; with_reducible refine (CI.out _ HBD.out).mono ?_; rintro e v1 ⟨p7, c7, rfl, L7, V1⟩; obtain ⟨m0, m1, m2, m3, m4⟩ := HS.out v1 V1.out) | (go_at_call 16; with_reducible refine (CF.out _ p7 c7 V1.out L7.out).mono ?_; rintro e v2 ⟨rfl, V2⟩; obtain ⟨m0, m1, m2, m3, m4⟩ := HS.out v2 V2.out) | (go_at_call 13; with_reducible refine (CJ.out _ V2.out).mono ?_; rintro e v3 ⟨p8, c8, rfl, L8, V3⟩; obtain ⟨m0, m1, m2, m3, m4⟩ := HS.out v3 V3.out) | (go_at_call 16; with_reducible refine (CG.out _ p8 c8 V3.out L8.out).mono ?_; rintro e v4 ⟨rfl, V4⟩; obtain ⟨m0, m1, m2, m3, m4⟩ := HS.out v4 V4.out))
        go_wp2
        go_ret
        exact ⟨rfl, btr EY.out.be V4.out⟩
theorem fair_walk (r : Int) (q : Option Addr) (cap : Nat) (l : List It) (w : World) (h : Iz w q l) (hm : l.length ≤ maxLen) : Calls Try.prog 4 #[.int .i64 r, .slice q l.length cap] w fun e w' => e = .returned (.bool true) ∧ Below w.heap.size w w' := by
  cases hr : isP r with
  | false => exact fair_bad r q l.length cap w hr
  | true => exact fair_ok r q cap l w h hm hr
end Go.Proofs.Ytknikhoobhgidaa
