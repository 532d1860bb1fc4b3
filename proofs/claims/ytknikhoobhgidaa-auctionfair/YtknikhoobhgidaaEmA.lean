/-
  AuctionEmptied: the walk.
-/
import Derived.Test.YtknikhoobhgidaaEmP
namespace Go.Proofs.Ytknikhoobhgidaa
open Go.RowKit Go.Deep Go.Shelf
set_option linter.unusedVariables false
set_option linter.unusedSimpArgs false
set_option maxHeartbeats 4000000
set_option maxRecDepth 100000
/-- a call, all of it made behind w. -/
structure Eg (w U : World) (B : Nat) (r : Int) (b s : List It) : Prop where
  cl : ∃ p1 c1 p2 c2, Cl U B r 4096 p1 c1 b p2 c2 s ∧ ∀ g, OfP p1 g ∨ OfP p2 g → w.heap.size ≤ g
  gb : w.heap.size ≤ B
  be : Below w.heap.size w U
theorem Eg.ec {w U : World} {B : Nat} {r : Int} {b s : List It} (h : Eg w U B r b s) : Ec w U B r b s := by
  obtain ⟨p1, c1, p2, c2, hc, _⟩ := h.cl
  exact ⟨⟨p1, c1, p2, c2, hc⟩, h.be⟩
theorem Eg.on {w U V : World} {B : Nat} {r : Int} {b s : List It} (h : Eg w U B r b s) (hb : Below U.heap.size U V) : Eg w V B r b s := by
  obtain ⟨p1, c1, p2, c2, hc, hg⟩ := h.cl
  exact ⟨⟨p1, c1, p2, c2, hc.on hb, hg⟩, h.gb, btr h.be hb⟩
theorem entered_eg (r : Int) (q : Option Addr) (cap : Nat) (l : List It) (w U : World) (hU : Below w.heap.size w U) (h : Iz w q l) (hm : l.length ≤ maxLen) (hr : isP r = true) :
    Calls Try.prog 10 #[.int .i64 r, .slice q l.length cap] U fun e w' => ∃ B pt nt ct, e = .returned (.tuple #[.pointer (some ⟨B, 0, none⟩), .slice pt nt ct]) ∧ Hid (nt = (etd 4096 l).1.length + (etd 4096 l).2.1.length) ∧ Hid (Eg w w' B r (etd 4096 l).1 (etd 4096 l).2.1) :=
  (entered_ok r q cap l U (h.on hU) hm hr).mono (fun e w' hh => by
    obtain ⟨B, pt, ct, h1, h2⟩ := hh
    obtain ⟨p1, c1, p2, c2, hc, hg, _⟩ := h2.cl
    have hs := hU.size
    exact ⟨B, pt, _, ct, h1, hid (etd_len _ _), hid ⟨⟨p1, c1, p2, c2, hc, fun g h => Nat.le_trans hs (hg g h)⟩, Nat.le_trans hs h2.gb, btr hU h2.be⟩⟩)
theorem Eg.uncross {w U : World} {B : Nat} {r : Int} {b s : List It} (h : Eg w U B r b s) : Calls Try.prog 14 #[.pointer (some ⟨B, 0, none⟩)] U fun e w' => (∃ v, e = .returned v) ∧ Hid (Eg w w' B r (lft r b s).1 (lft r b s).2) := by
  obtain ⟨p1, c1, p2, c2, hc, hg⟩ := h.cl
  cases hq : quo r b s with
  | none =>
    have e : lft r b s = (b, s) := by unfold lft; rw [hq]
    rw [e]
    exact (uncross_none B r 4096 p1 c1 b p2 c2 s U hc hq).mono (fun e w' h1 => ⟨⟨_, h1.1⟩, hid (h.on h1.2)⟩)
  | some z =>
    have e : lft r b s = (trd z.pr (b.length + s.length) z.vo b s).2 := by unfold lft; rw [hq]
    rw [e]
    refine (uncross_some B r 4096 p1 c1 b p2 c2 s z U hc hq).mono ?_
    rintro e w' ⟨pf, cf, h1, _, h2, h3⟩
    refine ⟨⟨_, h1⟩, hid ⟨⟨p1, c1, p2, c2, h2, hg⟩, h.gb, h.be.trans (h3.below h.be.size (fun g hlt e => ?_))⟩⟩
    have := h.gb
    rcases e with e | e
    · omega
    · have := hg g e; omega
theorem Ec.int1 {w U : World} {B : Nat} {r : Int} {b s : List It} (h : Ec w U B r b s) : Calls Try.prog 13 #[.pointer (some ⟨B, 0, none⟩), .int .i64 1] U fun e w' => ∃ p' c', e = .returned (.slice p' b.length c') ∧ Hid (Li w' p' c' b) ∧ Hid (Below U.heap.size U w') ∧ Hid (∀ g, OfP p' g → U.heap.size ≤ g) := by
  obtain ⟨p1, c1, p2, c2, hc⟩ := h.cl
  exact (interests1 B r 4096 p1 c1 b p2 c2 s U hc).mono (fun e w' ⟨p', c', h1, h2, h3, h4⟩ => ⟨p', c', h1, hid h2, hid h3, hid h4⟩)
theorem Ec.int2 {w U : World} {B : Nat} {r : Int} {b s : List It} (h : Ec w U B r b s) : Calls Try.prog 13 #[.pointer (some ⟨B, 0, none⟩), .int .i64 2] U fun e w' => ∃ p' c', e = .returned (.slice p' s.length c') ∧ Hid (Li w' p' c' s) ∧ Hid (Below U.heap.size U w') ∧ Hid (∀ g, OfP p' g → U.heap.size ≤ g) := by
  obtain ⟨p1, c1, p2, c2, hc⟩ := h.cl
  exact (interests2 B r 4096 p1 c1 b p2 c2 s U hc).mono (fun e w' ⟨p', c', h1, h2, h3, h4⟩ => ⟨p', c', h1, hid h2, hid h3, hid h4⟩)
theorem Et.unone {w U : World} {B : Nat} {r : Int} {b s T : List It} {pt : Option Addr} {ct : Nat} (h : Et w U B r b s T pt ct) (hq : quo r b s = none) : Calls Try.prog 14 #[.pointer (some ⟨B, 0, none⟩)] U fun e w' => e = .returned (.tuple #[.slice none 0 0, .agg #[.int .i64 0, .int .u64 0, .int .u64 0, .int .i64 0, .int .i64 0], .bool false]) ∧ Hid (Et w w' B r b s T pt ct) := by
  obtain ⟨p1, c1, p2, c2, hc⟩ := h.ec.cl
  exact (uncross_none B r 4096 p1 c1 b p2 c2 s U hc hq).mono (fun e w' h1 => ⟨h1.1, hid (h.on h1.2)⟩)
theorem Et.clen {w U : World} {B : Nat} {r : Int} {b s T : List It} {pt : Option Addr} {ct : Nat} (h : Et w U B r b s T pt ct) : Calls Try.prog 17 #[.pointer (some ⟨B, 0, none⟩)] U fun e w' => e = .returned (.int .i64 (T.length : Nat)) ∧ Hid (Et w w' B r b s T pt ct) := by
  obtain ⟨p1, c1, p2, c2, hc⟩ := h.ec.cl
  refine (len_any B r 4096 p1 c1 b p2 c2 s U hc).mono ?_
  rintro e w' ⟨h1, n, rfl⟩
  have e : ((b.length : Int) + s.length) = ((T.length : Nat) : Int) := by rw [h.pe.length_eq, List.length_append]; omega
  rw [e] at h1
  exact ⟨h1, hid (h.on (bdrew _ _))⟩
theorem emptied_bad (r : Int) (q : Option Addr) (n cap : Nat) (q' : Option Addr) (n' cap' : Nat) (w : World) (hr : isP r = false) : Calls Try.prog 5 #[.int .i64 r, .slice q n cap, .slice q' n' cap'] w fun e w' => e = .returned (.bool true) ∧ Below w.heap.size w w' := by
  have CL := hid (fun U => lives_any U)
  have CE := hid (fun U => entered_bad r q n cap U hr)
  by_cases h0 : r < 0
  · go_enter Try.func5, Try.ntmps5
    go_wp2_with (first | (go_at_call 9; with_reducible refine (CL.out _).mono ?_; rintro e w1 ⟨rfl, hb⟩; have V1 := hid hb; clear hb) | (go_at_call 10; with_reducible refine (CE.out _).mono ?_; rintro e w2 ⟨rfl, rfl⟩))
    go_ret
    exact ⟨rfl, V1.out⟩
  · have h1 : 262144 ≤ r := by simp only [isP, decide_eq_false_iff_not] at hr; omega
    go_enter Try.func5, Try.ntmps5
    go_wp2_with (first | (go_at_call 9; with_reducible refine (CL.out _).mono ?_; rintro e w1 ⟨rfl, hb⟩; have V1 := hid hb; clear hb) | (go_at_call 10; with_reducible refine (CE.out _).mono ?_; rintro e w2 ⟨rfl, rfl⟩))
    go_ret
    exact ⟨rfl, V1.out⟩
theorem emptied_ok (r : Int) (q : Option Addr) (cap : Nat) (l : List It) (q' : Option Addr) (cap' : Nat) (ps : List Int) (w : World) (h : Iz w q l) (hm : l.length ≤ maxLen) (hp : Pz w q' ps) (hpm : ps.length ≤ maxLen) (hr : isP r = true) : Calls Try.prog 5 #[.int .i64 r, .slice q l.length cap, .slice q' ps.length cap'] w fun e w' => e = .returned (.bool true) ∧ Below w.heap.size w w' := by
  have CL := hid (fun U => lives_any U)
  have CE := hid (fun (U : World) (hU : Below w.heap.size w U) => entered_eg r q cap l w U hU h hm hr)
  obtain ⟨x0, hxs⟩ : ∃ x, (etd 4096 l).1 = x := ⟨_, rfl⟩
  obtain ⟨y0, hys⟩ : ∃ x, (etd 4096 l).2.1 = x := ⟨_, rfl⟩
  rw [hxs, hys] at CE
  obtain ⟨n, hn⟩ : ∃ n, l.length = n := ⟨_, rfl⟩
  rw [hn] at CE ⊢
  obtain ⟨np, hnp⟩ : ∃ n, ps.length = n := ⟨_, rfl⟩
  rw [hnp] at hpm ⊢
  have HNP := hid hnp
  have HP := hid hp
  unfold maxLen at hpm
  clear h hm hr hxs hys hn hnp hp
  have pq := ptr_nil
  go_enter Try.func5, Try.ntmps5
  go_upto_region 6 with (first | (go_at_call 9; with_reducible refine (CL.out _).mono ?_; rintro e w1 ⟨rfl, hb⟩; have V1 := hid hb; clear hb) | (go_at_call 10; with_reducible refine (CE.out _ V1.out).mono ?_; rintro e w2 ⟨B, pt0, nt0, ct0, rfl, _, E2⟩))
  have CU := hid (E2.out.uncross)
  have hz := fun p => lft_zero (r := r) E2.out.ec.sides.1 E2.out.ec.sides.2 p
  obtain ⟨xs, hxs⟩ : ∃ x, (lft r x0 y0).1 = x := ⟨_, rfl⟩
  obtain ⟨ys, hys⟩ : ∃ x, (lft r x0 y0).2 = x := ⟨_, rfl⟩
  rw [hxs, hys] at CU hz
  have HM := hid hz
  clear CE CL hxs hys hz
  go_upto_region 7 with (go_at_call 14; with_reducible refine (CU.out).mono ?_; rintro e w3 ⟨⟨v3, rfl⟩, E3⟩)
  obtain ⟨s1, s2⟩ := E3.out.ec.sides
  have HQN := hid (quo_none (r := r) HM.out s1 s2)
  obtain ⟨p1, c1, p2, c2, hc, _⟩ := E3.out.cl
  have hmb := hc.mb
  clear hc s1 s2
  have CI := hid (E3.out.ec.int1)
  have CJ := hid (fun (U : World) (hU : Below w3.heap.size w3 U) => (E3.out.ec.on hU).int2)
  obtain ⟨nb, hnb⟩ : ∃ n, xs.length = n := ⟨_, rfl⟩
  obtain ⟨ns, hns⟩ : ∃ n, ys.length = n := ⟨_, rfl⟩
  rw [hnb] at CI hmb
  rw [hns] at CJ hmb
  have HLN := hid (And.intro hnb hns)
  clear hnb hns CU
  go_upto_region 8 with (first | (go_at_call 13; with_reducible refine (CI.out).mono ?_; rintro e w4 ⟨pa, ca, rfl, I1, I2, I3⟩) | (go_at_call 13; with_reducible refine (CJ.out _ I2.out).mono ?_; rintro e w5 ⟨pb, cb, rfl, J1, J2, J3⟩; have OW := hid (show w5.ownsRow 0 36 6 (.slice pa nb ca) nb (its xs) from by have := I1.out.on J2.out; unfold Li at this; rw [HLN.out.1] at this; exact this); have ON := hid (show w5.ownsRow 0 36 6 (.slice pb ns cb) ns (its ys) from by have := J1.out; unfold Li at this; rw [HLN.out.2] at this; exact this)) | (at_builtin; refine wpList_app_mine (by rfl) (.tmp 36) (.tmp 38) 22 36 _ 6 48 (by rfl) Try.underlying22 infoIt rfl (by decide) 0 0 _ nb _ (by rfl) OW.out _ cb ns _ (by rfl) ON.out (its_one _) (by unfold maxLen; omega) (by omega) (by simp) ?_; intro v' w6 hown hgrow; obtain ⟨pt, ct, rfl⟩ := own_form hown; have HO6 := hid hown; have HG6 := hid hgrow; clear hown hgrow))
  obtain ⟨nt, hnt⟩ : ∃ n, nb + ns = n := ⟨_, rfl⟩
  rw [hnt] at HO6 ⊢
  have HNT := hid (show (xs ++ ys).length = nt from by rw [List.length_append, HLN.out.1, HLN.out.2]; exact hnt)
  have hnt4 : nt ≤ 4096 := by omega
  have E6 := hid (show Et w w6 B r xs ys (xs ++ ys) pt ct from by
    have hgr := HG6.out
    have hb5 : Below w3.heap.size w3 w5 := btr I2.out J2.out
    have hk : Kp (OfP pa) w5 w6 := ⟨hgr.os, hgr.tape, hgr.output, hgr.size, fun b hb hB => hgr.block b hb (fun e => hB (own_ofq OW.out e.symm))⟩
    have hb6 : Below w3.heap.size w3 w6 := hb5.trans (hk.below hb5.size (fun g hg e => by have := I3.out g e; omega))
    refine ⟨E3.out.ec.on hb6, ?_, List.Perm.refl _⟩
    unfold Li
    rw [HNT.out, its_app]
    exact HO6.out)
  obtain ⟨T, hT⟩ : ∃ T, xs ++ ys = T := ⟨_, rfl⟩
  rw [hT] at E6 HNT
  clear CI CJ OW ON HO6 HG6 I1 I2 I3 J1 J2 J3 hT hnt hmb HLN
  have CU := hid (fun (U : World) (hU : Et w U B r xs ys T pt ct) => hU.unone HQN.out)
  have CQ := hid (show ∀ (U : World), Et w U B r xs ys T pt ct → Calls Try.prog 11 #[.pointer (some ⟨B, 0, none⟩)] U fun e w' => e = .returned (.tuple #[.agg #[.int .i64 0, .int .u64 0, .int .u64 0, .int .i64 0, .int .i64 0], .bool false]) ∧ Hid (Et w w' B r xs ys T pt ct) from fun U hU => by have := hU.quote; rw [HQN.out] at this; exact this)
  have CN := hid (show ∀ (U : World), Et w U B r xs ys T pt ct → Calls Try.prog 17 #[.pointer (some ⟨B, 0, none⟩)] U fun e w' => e = .returned (.int .i64 (nt : Nat)) ∧ Hid (Et w w' B r xs ys T pt ct) from fun U hU => by have := hU.clen; rw [HNT.out] at this; exact this)
  have CV := hid (show ∀ (U : World), Et w U B r xs ys T pt ct → ∀ p, Calls Try.prog 12 #[.slice pt nt ct, .int .i64 p] U fun e w' => e = .returned (.int .u64 (min (wd p xs) (wd p ys))) ∧ U = w' from fun U hU p => by have := hU.volume p; rw [HNT.out] at this; exact this)
  go_upto_region 9 with (go_at_call 14; with_reducible refine (CU.out _ E6.out).mono ?_; rintro e w7 ⟨rfl, E7⟩)
  obtain ⟨Y, hY⟩ : ∃ X, w7.alloc (.cells #[.int .i64 0, .int .u64 0, .int .u64 0, .int .i64 0, .int .i64 0] 30) = X := ⟨_, rfl⟩
  have EY := hid (show Et w Y B r xs ys T pt ct from by rw [← hY]; exact E7.out.on (ball _ _))
  rw [hY]
  clear hY
  go_upto_region 10 with (go_at_call 11; with_reducible refine (CQ.out _ EY.out).mono ?_; rintro e w8 ⟨rfl, E8⟩)
  obtain ⟨Z, hZ⟩ : ∃ X, w8.alloc (.cells #[.int .i64 0, .int .u64 0, .int .u64 0, .int .i64 0, .int .i64 0] 30) = X := ⟨_, rfl⟩
  have EZ := hid (show Et w Z B r xs ys T pt ct from by rw [← hZ]; exact E8.out.on (ball _ _))
  rw [hZ]
  clear hZ
  have nn : ((nt : Int) != (nt : Int)) = false := by simp
  go_upto_region 13 with (go_at_call 17; with_reducible refine (CN.out _ EZ.out).mono ?_; rintro e X ⟨rfl, EX⟩)
  have CX := hid (CV.out X EX.out)
  clear CU CQ CN CV nn
  go_loopw [15] (fun iv wr => ∃ i : Nat, i ≤ nt ∧ iv = .int .i64 i ∧ Hid (X = wr)) (fun iv _ => nt - (intOf iv).toNat)
  case atStart => exact ⟨0, Nat.zero_le _, rfl, hid rfl⟩
  case round =>
    obtain ⟨i, hin, rfl, HW⟩ := hrel
    have hw := HW.out
    subst hw
    by_cases hlt : i < nt
    · have hi : i < T.length := by rw [HNT.out]; exact hlt
      obtain ⟨g, hg, a0, a1, a2, a3, a4, a5⟩ := EX.out.li.cells hi
      subst hg
      obtain ⟨t, ht⟩ : ∃ z, T[i] = z := ⟨_, rfl⟩
      rw [ht] at a0 a1 a2 a3 a4 a5
      have i0 : (0 : Int) ≤ (i : Int) := by omega
      have i1 : (i : Int) < (nt : Int) := by omega
      have CD := hid (CX.out t.pr)
      have hle := HM.out t.pr
      obtain ⟨v, hv⟩ : ∃ v, min (wd t.pr xs) (wd t.pr ys) = v := ⟨_, rfl⟩
      rw [hv] at CD hle
      have d1 : decide (0 < v) = false := decide_eq_false (by omega)
      clear hv hle ht
      go_wp2_with (go_at_call 12; with_reducible refine (CD.out).mono ?_; rintro e w9 ⟨rfl, rfl⟩)
      go_roundw
      case rel => exact ⟨i + 1, by omega, by go_num, hid (by first | rfl | trivial)⟩
      case measure => simp [intOf]; omega
    · obtain rfl : i = nt := by omega
      go_upto_region 18 with fail
      go_loopw [16] (fun iv wr => ∃ i : Nat, i ≤ np ∧ iv = .int .i64 i ∧ Hid (X = wr)) (fun iv _ => np - (intOf iv).toNat)
      case atStart => exact ⟨0, Nat.zero_le _, rfl, hid rfl⟩
      case round =>
        obtain ⟨j, hjn, rfl, HW⟩ := hrel
        have hw := HW.out
        subst hw
        by_cases hlt : j < np
        · have hj : j < ps.length := by rw [HNP.out]; exact hlt
          obtain ⟨b, off, hq', _, a0⟩ := (HP.out.on EX.out.ec.be) j hj
          subst hq'
          obtain ⟨c, hc⟩ : ∃ z, ps[j] = z := ⟨_, rfl⟩
          rw [hc] at a0
          have j0 : (0 : Int) ≤ (j : Int) := by omega
          have j1 : (j : Int) < (np : Int) := by omega
          have CD := hid (CX.out c)
          have hle := HM.out c
          obtain ⟨v, hv⟩ : ∃ v, min (wd c xs) (wd c ys) = v := ⟨_, rfl⟩
          rw [hv] at CD hle
          have d1 : decide (0 < v) = false := decide_eq_false (by omega)
          clear hv hle hc
          go_wp2_with (go_at_call 12; with_reducible refine (CD.out).mono ?_; rintro e w9 ⟨rfl, rfl⟩)
          go_roundw
          case rel => exact ⟨j + 1, by omega, by go_num, hid (by first | rfl | trivial)⟩
          case measure => simp [intOf]; omega
        · obtain rfl : j = np := by omega
          go_wp2
          go_ret
          exact ⟨rfl, EX.out.ec.be⟩
theorem emptied_walk (r : Int) (q : Option Addr) (cap : Nat) (l : List It) (q' : Option Addr) (cap' : Nat) (ps : List Int) (w : World) (h : Iz w q l) (hm : l.length ≤ maxLen) (hp : Pz w q' ps) (hpm : ps.length ≤ maxLen) : Calls Try.prog 5 #[.int .i64 r, .slice q l.length cap, .slice q' ps.length cap'] w fun e w' => e = .returned (.bool true) ∧ Below w.heap.size w w' := by
  cases hr : isP r with
  | false => exact emptied_bad r q l.length cap q' ps.length cap' w hr
  | true => exact emptied_ok r q cap l q' cap' ps w h hm hp hpm hr
end Go.Proofs.Ytknikhoobhgidaa
