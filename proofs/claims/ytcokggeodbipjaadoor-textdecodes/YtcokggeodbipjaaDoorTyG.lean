/-
  text.Decode.
-/
import Derived.Test.YtcokggeodbipjaaDoorTyF
namespace Go.Proofs.YtcokggeodbipjaaDoor
open Go.RowKit Go.Deep Go.Lib Go.Shelf Go.Sort
set_option linter.unusedVariables false

theorem OwnT.down {B B0 : Nat} {W1 W0 w : World} {v : Value} {l : List (Int × List UInt8)} (h : OwnT B W0 w v l) (hb : Below B0 W1 W0) (hB : B0 ≤ B) : OwnT B0 W1 w v l := by
  obtain ⟨⟨h1, h2⟩, h3, h4⟩ := h
  refine ⟨⟨h1, ?_⟩, hb.trans (h3.mono hB), Nat.le_trans hB h4⟩
  rcases h2 with h2 | ⟨g, cap, cur, e, hg, r⟩
  · exact Or.inl h2
  · exact Or.inr ⟨g, cap, cur, e, Nat.le_trans hB hg, r⟩
theorem outE_ok {l : List UInt8} {f t p : Nat} (h : outE l = ((f, t), p, 0)) : p = 0 ∧ 11 ≤ f ∧ f < t ∧ t + 7 ≤ 2048 ∧ t + 7 ≤ l.length := by
  unfold outE at h
  split at h
  · rename_i hn; simp only [Prod.mk.injEq] at h; exact absurd h.2.2 hn
  · rename_i hb
    split at h
    · rename_i hn; simp only [Prod.mk.injEq] at h; exact absurd h.2.2 hn
    · rename_i hl
      obtain ⟨h10, _⟩ := begE_ok l 10 0 (by simpa using hb) (Nat.zero_le _)
      obtain ⟨f', t', p', e', he⟩ : ∃ f t p e, lenE l = ((f, t), p, e) := ⟨_, _, _, _, rfl⟩
      rw [he] at h hl
      simp only [ne_eq, Decidable.not_not] at h hl
      subst hl
      obtain ⟨rfl, k1, k2, k3, k4⟩ := lenE_ok he (by omega)
      split at h
      · simp at h
      · rename_i hs
        split at h
        · simp at h
        · rename_i hT
          split at h
          · simp at h
          · simp only [Prod.mk.injEq] at h
            obtain ⟨⟨rfl, rfl⟩, rfl, _⟩ := h
            refine ⟨rfl, k1, ?_, k3, by omega⟩
            rcases Nat.lt_or_ge f' t' with h | h
            · exact h
            · exact absurd (Or.inr (Or.inl (by omega))) hT
theorem bodyR_place (body : List UInt8) : ∀ (r : List UInt8) (i g : Nat) (kind : List UInt8) (l : List (Int × List UInt8)), g ≤ i → (bodyR body r i g kind l).2.2.1 ≤ i + r.length
  | [], i, g, kind, l, h => by simp [bodyR]
  | c :: r, i, g, kind, l, h => by
    have h1 := bodyR_place body r (i + 1) g kind l (by omega)
    have h2 := fun k l => bodyR_place body r (i + 1) (i + 1) k l (by omega)
    have h3 : i + 1 + r.length = i + (c :: r).length := by simp; omega
    rw [h3] at h1 h2
    unfold bodyR
    repeat' split
    all_goals first | exact h1 | exact h2 _ _ | (simp; omega)

/-- what Decode tells. -/
noncomputable def decR (l : List UInt8) : List UInt8 × List (Int × List UInt8) × Nat × Int :=
  if (outE l).2.2 ≠ 0 then ([], [], (outE l).2.1, (outE l).2.2)
  else if (bodyR ((l.drop (outE l).1.1).take ((outE l).1.2 - (outE l).1.1)) ((l.drop (outE l).1.1).take ((outE l).1.2 - (outE l).1.1)) 0 0 [] []).2.2.2 ≠ 0 then
    ([], [], (outE l).1.1 + (bodyR ((l.drop (outE l).1.1).take ((outE l).1.2 - (outE l).1.1)) ((l.drop (outE l).1.1).take ((outE l).1.2 - (outE l).1.1)) 0 0 [] []).2.2.1, (bodyR ((l.drop (outE l).1.1).take ((outE l).1.2 - (outE l).1.1)) ((l.drop (outE l).1.1).take ((outE l).1.2 - (outE l).1.1)) 0 0 [] []).2.2.2)
  else ((bodyR ((l.drop (outE l).1.1).take ((outE l).1.2 - (outE l).1.1)) ((l.drop (outE l).1.1).take ((outE l).1.2 - (outE l).1.1)) 0 0 [] []).1, (bodyR ((l.drop (outE l).1.1).take ((outE l).1.2 - (outE l).1.1)) ((l.drop (outE l).1.1).take ((outE l).1.2 - (outE l).1.1)) 0 0 [] []).2.1, (outE l).1.2 + 7, 0)

set_option maxHeartbeats 4000000 in
set_option maxRecDepth 100000 in
/-- text.Decode. -/
theorem decode_any (l : List UInt8) (q : Option Addr) (cap : Nat) (w : World) (hl : l.length < 4611686018427387904) (hcap : l.length ≤ cap) (hcm : cap < 9223372036854775808) (hS : Sb w q l) (hM : LayM w) :
    Calls Tryd.prog 22 #[.slice q l.length cap] w fun e w' => ∃ v, e = .returned (.tuple #[.string ⟨(decR l).1.toArray⟩, v, .int .i64 ((decR l).2.2.1 : Nat), .int .i64 (decR l).2.2.2]) ∧ OwnT w.heap.size w w' v (decR l).2.1 := by
  have HS := hid hS
  have HM := hid hM
  have OL := hid (outline_any l q cap w hl hcap hcm hS hM.laye)
  obtain ⟨R, hR⟩ : ∃ R, decR l = R := ⟨_, rfl⟩
  rw [hR]
  unfold decR at hR
  obtain ⟨f, t, p, e, ho⟩ : ∃ f t p e, outE l = ((f, t), p, e) := ⟨_, _, _, _, rfl⟩
  rw [ho] at OL hR
  simp only [lenV] at OL
  simp only at hR
  by_cases he : e = 0
  · subst he
    rw [if_neg (by simp)] at hR
    obtain ⟨rfl, k1, k2, k3, k4⟩ := outE_ok ho
    obtain ⟨b, o, rfl, _⟩ := hS 0 (by omega)
    have hBl : ((l.drop f).take (t - f)).length = t - f := by simp; omega
    have RB := hid (fun w' hS hM => readbody_any ((l.drop f).take (t - f)) (some ⟨b, o + f, none⟩) (cap - f) w' (by omega) (by omega) (by omega) hS hM)
    have HSB := hid ((hS.drop f).take (t - f))
    have hpl := bodyR_place ((l.drop f).take (t - f)) ((l.drop f).take (t - f)) 0 0 [] [] (Nat.le_refl _)
    rw [hBl] at RB hpl
    obtain ⟨BD, hBD⟩ : ∃ x, (l.drop f).take (t - f) = x := ⟨_, rfl⟩
    rw [hBD] at RB HSB hR hpl
    obtain ⟨kd, tg, pl, e2, hB⟩ : ∃ a b c d, bodyR BD BD 0 0 [] [] = (a, b, c, d) := ⟨_, _, _, _, rfl⟩
    rw [hB] at RB hR hpl
    simp only at RB hR hpl
    have EN := hid (fun w' => end_any f t w' (by omega))
    have i0 : (0 : Int) ≤ (f : Int) := by omega
    have i1 : (f : Int) ≤ (t : Int) := by omega
    have i2 : (t : Int) ≤ (cap : Int) := by omega
    have i3 : ¬ cap = f := by omega
    have wr1 : IntKind.i64.wrap ((f : Int) + (pl : Int)) = (f : Int) + (pl : Int) := by rw [IntKind.wrap_i64]; omega
    clear ho hBD hB hBl hM hS hcm
    by_cases he2 : e2 = 0
    · subst he2
      rw [if_neg (by simp)] at hR
      subst hR
      go_enter Tryd.func22, Tryd.ntmps22
      go_wp2_with (first | (go_at_call 40; refine OL.out.mono ?_; rintro e w1 ⟨rfl, hb⟩; have HB1 := hid (show Below w.heap.size w w1 from hb); clear hb) | (go_at_call 41; refine (RB.out _ (HSB.out.on (btr' HB1.out (ball _ _))) (HM.out.on (btr' HB1.out (ball _ _)))).mono ?_; rintro e w2 ⟨v2, rfl, ho2⟩; have q20 := cell_new 0 ho2.2.1 rfl; have q21 := cell_new 1 ho2.2.1 rfl; have HO2 := hid (ho2.down (btr' HB1.out (ball _ _)) (btr' HB1.out (ball _ _)).size); clear ho2) | (go_at_call 42; refine (EN.out _).mono ?_; rintro e w3 ⟨rfl, hb⟩; have HO3 := hid (HO2.out.on hb); clear hb))
      refine bodyPost_ret (res4 Tryd.f22 2 3 4 5 Tryd.results22 _ _ _ _ _ _ (by rfl) (by rfl) (by rfl) (by rfl)) rfl ?_
      exact ⟨_, rfl, HO3.out⟩
    · rw [if_pos he2] at hR
      subst hR
      have hne : (e2 != 0) = true := by simpa using he2
      clear he2
      go_enter Tryd.func22, Tryd.ntmps22
      go_wp2_with (first | (go_at_call 40; refine OL.out.mono ?_; rintro e w1 ⟨rfl, hb⟩; have HB1 := hid (show Below w.heap.size w w1 from hb); clear hb) | (go_at_call 41; refine (RB.out _ (HSB.out.on (btr' HB1.out (ball _ _))) (HM.out.on (btr' HB1.out (ball _ _)))).mono ?_; rintro e w2 ⟨v2, rfl, ho2⟩; have q20 := cell_new 0 ho2.2.1 rfl; have q21 := cell_new 1 ho2.2.1 rfl; have HO2 := hid (ho2.down (btr' HB1.out (ball _ _)) (btr' HB1.out (ball _ _)).size); clear ho2))
      go_quiet (fail)
      go_wp2
      refine bodyPost_ret (res4 Tryd.f22 2 3 4 5 Tryd.results22 _ _ _ _ _ _ (by rfl) (by rfl) (by rfl) (by rfl)) rfl ?_
      exact ⟨_, rfl, ownT_nilB (HO2.out.2.1.trans ⟨rfl, rfl, rfl, Nat.le_refl _, fun _ _ => rfl⟩)⟩
  · rw [if_pos he] at hR
    subst hR
    have hne : (e != 0) = true := by simpa using he
    clear he
    go_enter Tryd.func22, Tryd.ntmps22
    go_wp2_with (first | (go_at_call 40; refine OL.out.mono ?_; rintro e w1 ⟨rfl, hb⟩; have HB1 := hid (show Below w.heap.size w w1 from hb); clear hb))
    refine bodyPost_ret (res4 Tryd.f22 2 3 4 5 Tryd.results22 _ _ _ _ _ _ (by rfl) (by rfl) (by rfl) (by rfl)) rfl ?_
    exact ⟨_, rfl, ownT_nilB (btr' HB1.out (ball _ _))⟩
end Go.Proofs.YtcokggeodbipjaaDoor
