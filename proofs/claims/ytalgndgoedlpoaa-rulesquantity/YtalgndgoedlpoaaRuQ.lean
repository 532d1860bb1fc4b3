/-
  What a command is refused for by a book, whatever it is.
-/
import Derived.Test.YtalgndgoedlpoaaRuP
namespace Go.Proofs.Ytalgndgoedlpoaa
open Go.RowKit Go.Deep Go.Shelf
set_option linter.unusedVariables false
set_option linter.unusedSimpArgs false
theorem fo_side {b : Bs} {id : Int} (h : (fo b id).2.2 = true) : (fo b id).2.1 = 1 ∨ (fo b id).2.1 = 2 := by
  unfold fo at h ⊢
  split
  · exact .inl rfl
  · rename_i h1
    rw [dif_neg h1] at h
    split
    · exact .inr rfl
    · rename_i h2
      rw [dif_neg h2] at h; cases h
theorem chO_side {c : Cm} (h : chO c = 0) : c.sd = 1 ∨ c.sd = 2 := by
  unfold chO at h
  by_cases h1 : isSd c.sd = false
  · rw [if_pos h1] at h; cases h
  · have : isSd c.sd = true := by simpa using h1
    simpa [isSd] using this
theorem refusal_any (B : Nat) (b : Bs) (c : Cm) (w : World) (h : Bm w B b) (hc : CmOk c) (hn : b.l1.length + b.l2.length ≤ 1048576) :
    Calls Try.prog 23 #[.pointer (some ⟨B, 0, none⟩), .agg (cmr c)] w fun e w' => e = .returned (.int .i64 (rfs b c)) ∧ Below w.heap.size w w' := by
  have hF := rf_mk B b c w h hc hn
  obtain ⟨W, hW⟩ : ∃ W, w.alloc (.cells (cmr c) 39) = W := ⟨_, rfl⟩
  rw [hW] at hF
  unfold rfs
  by_cases y90 : chk c = 90
  · rw [if_pos y90]
    rw [y90] at hF
    exact rf90 B b c w W 0 _ _ _ _ _ hW hF
  rw [if_neg y90]
  have y1 : (chk c == 90) = false := by simpa using y90
  by_cases k1 : c.kd = 1
  · rw [if_neg (fun h => h.1 k1)]
    have a1 : (c.kd != 1) = false := by simpa using k1
    have a2 : (c.kd == 1) = true := by simpa using k1
    have a3 : (c.kd == 2) = false := by simp [k1]
    by_cases y0 : chk c = 0
    · rw [if_neg (by rintro (h | h); exact h y0; omega)]
      rw [y0] at hF
      by_cases hi : c.id ≤ b.high
      · rw [if_pos hi]
        exact rf97a B b c w W 0 _ _ _ _ _ a1 a3 hi hW hF
      · rw [if_neg hi]
        have hs : (cmN b c).sd = 1 ∨ (cmN b c).sd = 2 := by
          have e : cmN b c = c := by simp [cmN, k1]
          rw [e]
          refine chO_side ?_
          unfold chk at y0
          rwa [if_pos k1] at y0
        obtain ⟨o, ho⟩ : ∃ o, ord (cmN b c) = o := ⟨_, rfl⟩
        have hoty : (cmN b c).ty = o.ty := by rw [← ho]; rfl
        rw [ho] at hF ⊢
        rw [hoty] at hF ⊢
        obtain ⟨rv, hrv⟩ : ∃ v, rst o.ty = v := ⟨_, rfl⟩
        obtain ⟨mv, hmv⟩ : ∃ v, mts b o (cmN b c).sd = v := ⟨_, rfl⟩
        rw [hrv, hmv] at hF
        rw [hrv, hmv]
        cases rv with
        | true =>
          by_cases fu : b.cap ≤ (b.l1.length : Int) + b.l2.length
          · rw [if_pos ⟨k1, rfl, fu⟩]
            exact rf98 B b c w W 0 _ true _ _ _ a1 a2 a3 hi fu hW hF
          · rw [if_neg (fun h => fu h.2.2)]
            by_cases t5 : o.ty = 5
            · have t5' : (o.ty == 5) = true := by simpa using t5
              cases mv with
              | true =>
                rw [if_pos ⟨t5, rfl⟩]
                exact rfa4 B b c w W 0 _ true true _ _ a1 a2 a3 hi t5' fu hs hW hF
              | false =>
                rw [if_neg (fun h => by cases h.2)]
                exact rfa3 B b c w W 0 _ true false _ _ a1 a2 a3 hi t5' fu hs hW hF
            · have t5' : (o.ty == 5) = false := by simpa using t5
              rw [if_neg (fun h => t5 h.1)]
              exact rfa2 B b c w W 0 _ true _ _ _ a1 a2 a3 hi t5' fu hW hF
        | false =>
          rw [if_neg (fun h => by cases h.2.1)]
          have t5 : ¬ o.ty = 5 := by
            intro e
            rw [e] at hrv
            cases hrv
          have t5' : (o.ty == 5) = false := by simpa using t5
          rw [if_neg (fun h => t5 h.1)]
          exact rfa1 B b c w W 0 _ false _ _ _ a1 a2 a3 hi t5' hW hF
    · rw [if_pos (.inl y0)]
      have y0' : (chk c != 0) = true := by simpa using y0
      exact rfy1 B b c w W (chk c) _ _ _ _ _ y1 a1 y0' hW hF
  · have a1 : (c.kd != 1) = true := by simpa using k1
    have a2 : (c.kd == 1) = false := by simpa using k1
    obtain ⟨hv, hhv⟩ : ∃ v, (fo b c.tg).2.2 = v := ⟨_, rfl⟩
    rw [hhv] at hF
    rw [hhv]
    cases hv with
    | false =>
      rw [if_pos ⟨k1, rfl⟩]
      exact rf91 B b c w W (chk c) false _ _ _ _ y1 a2 a1 hW hF
    | true =>
      rw [if_neg (fun h => by cases h.2)]
      by_cases y0 : chk c = 0
      · by_cases k2 : c.kd = 2
        · rw [if_pos (.inr k2)]
          rw [y0] at hF ⊢
          have a3 : (c.kd == 2) = true := by simpa using k2
          exact rfc B b c w W 0 true _ _ _ _ a1 a3 hW hF
        · rw [if_neg (by rintro (h | h); exact h y0; exact k2 h)]
          rw [y0] at hF
          have a3 : (c.kd == 2) = false := by simpa using k2
          have k3 : c.kd = 3 := by
            by_cases k3 : c.kd = 3
            · exact k3
            · exfalso
              unfold chk at y0
              rw [if_neg k1, if_neg k3, if_neg k2] at y0
              cases y0
          by_cases hi : c.id ≤ b.high
          · rw [if_pos hi]
            exact rf97b B b c w W 0 true _ _ _ _ a1 a3 hi hW hF
          · rw [if_neg hi, if_neg (fun h => k1 h.1)]
            have hs : (cmN b c).sd = 1 ∨ (cmN b c).sd = 2 := by
              have e : (cmN b c).sd = (fo b c.tg).2.1 := by simp [cmN, k3]
              rw [e]
              exact fo_side hhv
            obtain ⟨o, ho⟩ : ∃ o, ord (cmN b c) = o := ⟨_, rfl⟩
            have hoty : (cmN b c).ty = o.ty := by rw [← ho]; rfl
            rw [ho] at hF ⊢
            rw [hoty]
            obtain ⟨mv, hmv⟩ : ∃ v, mts b o (cmN b c).sd = v := ⟨_, rfl⟩
            rw [hmv] at hF
            rw [hmv]
            by_cases t5 : o.ty = 5
            · have t5' : (o.ty == 5) = true := by simpa using t5
              cases mv with
              | true =>
                rw [if_pos ⟨t5, rfl⟩]
                exact rfb3 B b c w W 0 true _ true _ _ a1 a2 a3 hi t5' hs hW hF
              | false =>
                rw [if_neg (fun h => by cases h.2)]
                exact rfb2 B b c w W 0 true _ false _ _ a1 a2 a3 hi t5' hs hW hF
            · have t5' : (o.ty == 5) = false := by simpa using t5
              rw [if_neg (fun h => t5 h.1)]
              exact rfb1 B b c w W 0 true _ _ _ _ a1 a2 a3 hi t5' hW hF
      · rw [if_pos (.inl y0)]
        have y0' : (chk c != 0) = true := by simpa using y0
        exact rfy2 B b c w W (chk c) true _ _ _ _ y1 a1 y0' hW hF
end Go.Proofs.Ytalgndgoedlpoaa
