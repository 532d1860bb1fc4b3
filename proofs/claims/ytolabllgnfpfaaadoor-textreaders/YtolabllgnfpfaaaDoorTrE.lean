/-
  The document's Feed and Next.
-/
import Derived.Test.YtolabllgnfpfaaaDoorTrD
import Derived.Test.YtolabllgnfpfaaaDoorTzF
namespace Go.Proofs.YtolabllgnfpfaaaDoor
open Go.RowKit Go.Deep Go.Lib Go.Shelf Go.Sort
set_option linter.unusedVariables false
set_option linter.unusedSimpArgs false

set_option maxHeartbeats 2000000 in
set_option maxRecDepth 100000 in
/-- the document's Feed, where there is no room. -/
theorem dfeed_long (n m : Nat) (q p : Option Addr) (c d : Nat) (w : World) (hn : n ≤ 65536) (hm : m < 4611686018427387904) (h : 65536 < n + m) :
    Calls Tryd.prog 11 #[.slice q n c, .slice p m d] w fun e w' => e = .returned (.tuple #[.slice q n c, .int .i64 2]) ∧ w' = w := by
  have g1 : (65536 : Int) < (n : Int) + (m : Int) := by omega
  go_enter Tryd.func11, Tryd.ntmps11
  go_wp2
  go_ret2
  exact ⟨by simp, rfl⟩
set_option maxHeartbeats 2000000 in
set_option maxRecDepth 100000 in
/-- the document's Feed. -/
theorem dfeed_any (l b : List UInt8) (q p : Option Addr) (c d : Nat) (w : World) (h : l.length + b.length ≤ 65536) (hS : Sg w q c l) (hB : Sg w p d b) :
    Calls Tryd.prog 11 #[.slice q l.length c, .slice p b.length d] w fun e w' => ∃ v, e = .returned (.tuple #[v, .int .i64 0]) ∧ Own w.heap.size w w' v (l ++ b) := by
  have g1 : ¬ ((65536 : Int) < (l.length : Int) + (b.length : Int)) := by omega
  have HE := hid (own_emptyB w)
  have SE := hid (hS.on (ball w (.cells #[] 5)))
  have BE := hid hB
  clear hS hB
  go_enter Tryd.func11, Tryd.ntmps11
  go_wp2_with (first | (at_builtin; refine own_sliceQ _ (by rfl) (.tmp 13) (.tmp 14) (by rfl) w.heap.size _ [] (by rfl) w HE.out q _ c l rfl (by rfl) SE.out (by simp; omega) ?_; intro v1 w1 hO1; have HO1 := hid (show Own w.heap.size w w1 v1 l from hO1); clear hO1; refine Hid.out ?_))
  have B1 := hid (BE.out.on HO1.out.2.1)
  refine hid ?_
  go_wp2_with (first | (at_builtin; refine own_sliceQ _ (by rfl) (.tmp 15) (.tmp 16) (by rfl) w.heap.size v1 l (by rfl) w HO1.out p _ d b rfl (by rfl) B1.out (by omega) ?_; intro v3 w3 hO3; have HO3 := hid hO3; clear hO3; refine Hid.out ?_))
  refine hid ?_
  go_wp2
  go_ret2
  exact ⟨_, by simp, HO3.out⟩
/-- what the document's Next leaves. -/
def DNextP (l : List UInt8) (q : Option Addr) (w : World) (e : Ending) (w' : World) : Prop :=
  ∃ q' c' qt ct, e = .returned (.tuple #[.slice q' (nxR l).1.length c', .string ⟨(nxR l).2.1.toArray⟩, .slice qt (nxR l).2.2.1.length ct, .bool (nxR l).2.2.2.1, .int .i64 (nxR l).2.2.2.2]) ∧ Sg w' q' c' (nxR l).1 ∧ (nxR l).1.length ≤ c' ∧ c' < 9223372036854775808 ∧ (∀ a, q' = some a → ∃ a0, q = some a0 ∧ a.block = a0.block) ∧ Ts w' qt (nxR l).2.2.1 ∧ Below w.heap.size w w'
theorem res5 (fn : Func) (p1 p2 p3 p4 p5 : Tmp) (h : fn.results = #[.tmp p1, .tmp p2, .tmp p3, .tmp p4, .tmp p5]) (tmps : Array Value) (w : World) (e1 e2 e3 e4 e5 : Value)
    (h1 : tmps.getD p1 undef = e1) (h2 : tmps.getD p2 undef = e2) (h3 : tmps.getD p3 undef = e3) (h4 : tmps.getD p4 undef = e4) (h5 : tmps.getD p5 undef = e5) : (results fn tmps).run Tryd.prog w = .ok (.tuple #[e1, e2, e3, e4, e5]) w := by
  have a1 : tmps[p1]?.getD undef = e1 := by simpa using h1
  have a2 : tmps[p2]?.getD undef = e2 := by simpa using h2
  have a3 : tmps[p3]?.getD undef = e3 := by simpa using h3
  have a4 : tmps[p4]?.getD undef = e4 := by simpa using h4
  have a5 : tmps[p5]?.getD undef = e5 := by simpa using h5
  simp [results, h, a1, a2, a3, a4, a5]
theorem drop_sg {w : World} {g o c : Nat} {l : List UInt8} (h : Sb w (some ⟨g, o, none⟩) l) (n : Nat) : Sg w (some ⟨g, o + n, none⟩) (c - n) (l.drop n) := ⟨h.drop n, fun e => by cases e⟩

set_option maxHeartbeats 8000000 in
set_option maxRecDepth 100000 in
/-- the document's Next. -/
theorem dnext_any (l : List UInt8) (q : Option Addr) (c : Nat) (w : World) (hl : l.length ≤ 65536) (hlc : l.length ≤ c) (hcm : c < 9223372036854775808) (hS : Sg w q c l) :
    Calls Tryd.prog 13 #[.slice q l.length c] w fun e w' => DNextP l q w e w' := by
  have HS := hid hS
  have RD := hid (read_any l q c w (by omega) hlc hcm hS.1)
  unfold ReadP ansV at RD
  obtain ⟨NR, hNR⟩ : ∃ R, nxR l = R := ⟨_, rfl⟩
  unfold DNextP
  rw [hNR]
  unfold nxR at hNR
  obtain ⟨f, t, p, er, ho⟩ : ∃ f t p e, outE l = ((f, t), p, e) := ⟨_, _, _, _, rfl⟩
  rw [ho] at RD hNR
  simp only at RD hNR
  clear hS
  by_cases he : er = 0
  · subst he
    obtain ⟨rfl, k1, k2, k3, k4⟩ := outE_ok ho
    obtain ⟨_, _, _, dn⟩ := decR_whole ho
    rw [if_neg (by simp), if_neg (by simp)] at hNR
    obtain ⟨b, o, rfl, _⟩ := HS.out.1 0 (by omega)
    obtain ⟨kd, tg, pl, e2, hd⟩ : ∃ a b c d, decR l = (a, b, c, d) := ⟨_, _, _, _, rfl⟩
    rw [hd] at RD hNR dn
    simp only [decide_true, if_true] at RD hNR dn
    subst hNR
    rw [show ((t + 7 : Nat) : Int) = (t : Int) + 7 by omega] at RD
    have d20 : (e2 == 20) = false := by simpa using dn
    have j0 : (0 : Int) ≤ (t : Int) + 7 := by omega
    have j1 : (t : Int) + 7 ≤ (l.length : Int) := by omega
    have j2 : (l.length : Int) ≤ (c : Int) := by omega
    clear ho hd dn
    go_enter Tryd.func13, Tryd.ntmps13
    go_wp2_with (first | (go_at_call 22; refine RD.out.mono ?_; rintro e w1 ⟨v, rfl, hO⟩; have HO := hid hO; clear hO; refine Hid.out ?_))
    obtain ⟨qt, ct, rfl, hTt, _, _⟩ := HO.out.form
    have HT := hid (hTt.on (ball w1 (.cells #[.string ⟨kd.toArray⟩, .slice qt tg.length ct, .int .i64 pl, .int .i64 e2, .bool true, .int .i64 ((t : Int) + 7)] 61)))
    have HN := hid (heap_alloc_new w1 (.cells #[.string ⟨kd.toArray⟩, .slice qt tg.length ct, .int .i64 pl, .int .i64 e2, .bool true, .int .i64 ((t : Int) + 7)] 61))
    have HB := hid (show Below w.heap.size w (w1.alloc (.cells #[.string ⟨kd.toArray⟩, .slice qt tg.length ct, .int .i64 pl, .int .i64 e2, .bool true, .int .i64 ((t : Int) + 7)] 61)) from btr' HO.out.2.1 (ball _ _))
    have HS1 := hid (HS.out.1.on HB.out)
    obtain ⟨c0, c1, c2, c3, c4, c5⟩ := cells67 HN.out
    clear hTt HO HN RD
    by_cases hcc : c = t + 7
    · have z1 : c - (t + 7) = 0 := by omega
      have z2 : l.length - (t + 7) = 0 := by omega
      have HD := hid (show l.drop (t + 7) = [] from List.drop_eq_nil_of_le (by omega))
      refine hid ?_
      go_wp2
      go_quiet (fail)
      go_wp2
      refine bodyPost_ret (res5 Tryd.f13 2 3 4 5 6 Tryd.results13 _ _ _ _ _ _ _ (by rfl) (by rfl) (by rfl) (by rfl) (by rfl)) rfl ?_
      exact ⟨some ⟨b, o, none⟩, 0, qt, ct, by simp [z2]; rfl, ⟨fun i hi => by rw [HD.out] at hi; simp at hi, fun e => by cases e⟩, by simp; omega, by decide, fun a e => ⟨_, rfl, by cases e; rfl⟩, fun i hi => HT.out i hi, below_drewN HB.out _⟩
    · have z1 : ¬ (c - (t + 7) = 0) := by omega
      have z3 : (t : Int) + 7 < (c : Int) := by omega
      refine hid ?_
      go_wp2
      go_quiet (fail)
      go_wp2
      refine bodyPost_ret (res5 Tryd.f13 2 3 4 5 6 Tryd.results13 _ _ _ _ _ _ _ (by rfl) (by rfl) (by rfl) (by rfl) (by rfl)) rfl ?_
      exact ⟨some ⟨b, o + (t + 7), none⟩, c - (t + 7), qt, ct, by simp; rfl, ⟨fun i hi => (HS1.out.drop (t + 7)) i hi, fun e => by cases e⟩, by simp; omega, by omega, fun a e => ⟨_, rfl, by cases e; rfl⟩, fun i hi => HT.out i hi, below_drewN HB.out _⟩
  · have hde : decR l = ([], [], p, er) := by unfold decR; rw [ho]; simp only; rw [if_pos he]
    rw [hde] at RD
    simp only [he, decide_false, if_false] at RD
    by_cases h20 : er = 20
    · subst h20
      rw [if_pos rfl] at hNR
      subst hNR
      clear ho hde he
      go_enter Tryd.func13, Tryd.ntmps13
      go_wp2_with (first | (go_at_call 22; refine RD.out.mono ?_; rintro e w1 ⟨v, rfl, hO⟩; have HO := hid hO; clear hO; refine Hid.out ?_))
      have HB := hid (fun (o : Obj) => (show Below w.heap.size w (w1.alloc o) from btr' HO.out.2.1 (ball _ _)))
      obtain ⟨qt, ct, rfl, hTt, _, _⟩ := HO.out.form
      clear HO hTt
      refine hid ?_
      go_wp2
      refine bodyPost_ret (res5 Tryd.f13 2 3 4 5 6 Tryd.results13 _ _ _ _ _ _ _ (by rfl) (by rfl) (by rfl) (by rfl) (by rfl)) rfl ?_
      exact ⟨q, c, none, 0, by simp, HS.out.on (HB.out _), hlc, hcm, fun a e => ⟨a, e, rfl⟩, ts_nil _, HB.out _⟩
    · rw [if_neg h20, if_pos he] at hNR
      subst hNR
      have h20f : (er == 20) = false := by simpa using h20
      have hpos : 0 < l.length := by
        rcases Nat.eq_zero_or_pos l.length with h0 | h0
        · have : l = [] := List.length_eq_zero_iff.1 h0
          subst this
          have := outE_nil
          rw [ho] at this
          exact absurd this h20
        · exact h0
      obtain ⟨b, o, rfl, _⟩ := HS.out.1 0 hpos
      have j2 : (l.length : Int) ≤ (c : Int) := by omega
      have hdl : ∀ n, (l.drop n).length = l.length - n := fun n => by simp
      have HFN := hid (show ∀ i, i < l.length → (∀ j, j < i → ¬ FootAt l j) → FootAt l i → ftN l = i from fun i h1 h2 h3 => ftN_at l i h1 h2 h3)
      have HFE := hid (fun h => ftN_end l h)
      obtain ⟨F, hF⟩ : ∃ x, ftN l = x := ⟨_, rfl⟩
      rw [hF] at HFN HFE
      rw [hF, hdl F]
      clear hF ho hde he h20
      go_enter Tryd.func13, Tryd.ntmps13
      go_wp2_with (first | (go_at_call 22; refine RD.out.mono ?_; rintro e w1 ⟨v, rfl, hO⟩; have HO := hid hO; clear hO; refine Hid.out ?_))
      obtain ⟨qt, ct, rfl, hTt, _, _⟩ := HO.out.form
      have HN := hid (heap_alloc_new w1 (.cells #[.string ⟨#[]⟩, .slice qt 0 ct, .int .i64 p, .int .i64 er, .bool false, .int .i64 0] 61))
      have HB := hid (show Below w.heap.size w (w1.alloc (.cells #[.string ⟨#[]⟩, .slice qt 0 ct, .int .i64 p, .int .i64 er, .bool false, .int .i64 0] 61)) from btr' HO.out.2.1 (ball _ _))
      obtain ⟨W1, hW1⟩ : ∃ W, w1.alloc (.cells #[.string ⟨#[]⟩, .slice qt 0 ct, .int .i64 p, .int .i64 er, .bool false, .int .i64 0] 61) = W := ⟨_, rfl⟩
      rw [hW1] at HN HB
      have HW := hid hW1
      have HS1 := hid (HS.out.1.on HB.out)
      clear hTt HO RD hW1
      refine hid ?_
      go_wp2
      rw [HW.out]
      obtain ⟨c0, c1, c2, c3, c4, c5⟩ := cells67 HN.out
      clear HN HW
      go_loopw [8] (fun iv wr => ∃ i : Nat, 1 ≤ i ∧ i ≤ l.length ∧ iv = .int .i64 i ∧ wr = W1 ∧ Hid (∀ j, j < i → ¬ FootAt l j)) (fun iv _ => l.length - (RowKit.intOf iv).toNat)
      case atStart => exact ⟨1, by omega, by omega, rfl, rfl, hid (fun j hj h => by have := h.1; omega)⟩
      case round =>
        obtain ⟨i, hi1, hi, rfl, hw, HN⟩ := hrel
        subst hw
        by_cases hlt : i < l.length
        · have i1 : (i : Int) < (l.length : Int) := by omega
          have i0 : (0 : Int) ≤ (i : Int) := by omega
          have HST := hid (show ¬ FootAt l i → ∀ j, j < i + 1 → ¬ FootAt l j from fun h j hj => by
            by_cases e : j = i
            · subst e; exact h
            · exact HN.out j (by omega))
          obtain ⟨b', o', e, d0⟩ := HS1.out i hlt
          obtain ⟨rfl, rfl⟩ : b = b' ∧ o = o' := by simpa using e
          have B8 := byte_is hlt 56
          obtain ⟨X, hX⟩ : ∃ x : Int, (l[i].toNat : Int) = x := ⟨_, rfl⟩
          rw [hX] at d0 B8
          clear hX e
          have hci : ¬ (c - i = 0) := by omega
          have i9 : (i : Int) < (c : Int) := by omega
          by_cases h8 : X = 56
          · subst h8
            by_cases he : i + 1 = l.length
            · have e1 : ((i : Int) + 1 == (l.length : Int)) = true := by simp; omega
              have HR := hid (HFN.out i hlt HN.out ⟨by omega, B8.2 rfl, Or.inl he⟩)
              clear B8 HST he
              go_wp2
              go_quiet (fail)
              go_wp2
              refine bodyPost_ret (res5 Tryd.f13 2 3 4 5 6 Tryd.results13 _ _ _ _ _ _ _ (by rfl) (by rfl) (by rfl) (by rfl) (by rfl)) rfl ?_
              exact ⟨some ⟨b, o + i, none⟩, c - i, none, 0, by rw [HR.out]; simp, by rw [HR.out]; exact ⟨fun k hk => (HS1.out.drop i) k hk, fun e => by cases e⟩, by rw [HR.out]; omega, by omega, fun a e => ⟨_, rfl, by cases e; rfl⟩, ts_nil _, below_drewN HB.out _⟩
            · have e1 : ((i : Int) + 1 == (l.length : Int)) = false := by simp; omega
              have hn : i + 1 < l.length := by omega
              have i2 : (i : Int) + 1 < (l.length : Int) := by omega
              have i3 : (0 : Int) ≤ (i : Int) + 1 := by omega
              obtain ⟨b', o', e, d1⟩ := HS1.out (i + 1) hn
              obtain ⟨rfl, rfl⟩ : b = b' ∧ o = o' := by simpa using e
              have N6 := byte_is hn 61
              obtain ⟨Y, hY⟩ : ∃ x : Int, (l[i + 1].toNat : Int) = x := ⟨_, rfl⟩
              rw [hY] at d1 N6
              have d2 : wr.cell? ⟨b, o + ((i : Int) + 1).toNat, none⟩ = some (.int .u8 Y) := by rw [show ((i : Int) + 1).toNat = i + 1 by omega]; exact d1
              clear hY e
              by_cases h6 : Y = 61
              · subst h6
                have HR := hid (HFN.out i hlt HN.out ⟨by omega, B8.2 rfl, Or.inr (N6.2 rfl)⟩)
                clear B8 N6 HST he
                go_wp2
                go_quiet (fail)
                go_wp2
                refine bodyPost_ret (res5 Tryd.f13 2 3 4 5 6 Tryd.results13 _ _ _ _ _ _ _ (by rfl) (by rfl) (by rfl) (by rfl) (by rfl)) rfl ?_
                exact ⟨some ⟨b, o + i, none⟩, c - i, none, 0, by rw [HR.out]; simp, by rw [HR.out]; exact ⟨fun k hk => (HS1.out.drop i) k hk, fun e => by cases e⟩, by rw [HR.out]; omega, by omega, fun a e => ⟨_, rfl, by cases e; rfl⟩, ts_nil _, below_drewN HB.out _⟩
              · have h6n : (Y == 61) = false := by simpa using h6
                have HNX := hid (HST.out (fun h => by
                  rcases h.2.2 with h | h
                  · exact he h
                  · exact h6 (N6.1 h)))
                clear B8 N6 HST he h6
                go_wp2
                go_roundw
                case rel => exact ⟨i + 1, by omega, by omega, by go_num, by first | rfl | trivial, HNX⟩
                case measure => simp [RowKit.intOf]; omega
          · have h8n : (X == 56) = false := by simpa using h8
            have HNX := hid (HST.out (fun h => h8 (B8.1 h.2.1)))
            clear B8 HST h8
            go_wp2
            go_roundw
            case rel => exact ⟨i + 1, by omega, by omega, by go_num, by first | rfl | trivial, HNX⟩
            case measure => simp [RowKit.intOf]; omega
        · have hie : i = l.length := by omega
          have HR := hid (HFE.out (fun j hj => HN.out j (by omega)))
          have i1 : ¬ (i : Int) < (l.length : Int) := by omega
          clear HN
          go_wp2
          go_quiet (fail)
          go_wp2
          refine bodyPost_ret (res5 Tryd.f13 2 3 4 5 6 Tryd.results13 _ _ _ _ _ _ _ (by rfl) (by rfl) (by rfl) (by rfl) (by rfl)) rfl ?_
          exact ⟨none, 0, none, 0, by rw [HR.out]; simp, by rw [HR.out]; exact ⟨fun k hk => by simp at hk, fun _ => ⟨by simp, rfl⟩⟩, by rw [HR.out]; simp, by decide, fun a e => (by cases e), ts_nil _, below_drewN HB.out _⟩
end Go.Proofs.YtolabllgnfpfaaaDoor
