/-
  The document's Enter.
-/
import Derived.Test.YtnmkfdndfhefiaaGreatQuD
namespace Go.Proofs.YtnmkfdndfhefiaaGreat
open Go.RowKit Go.Deep Go.Shelf
set_option linter.unusedVariables false
set_option linter.unusedSimpArgs false
set_option maxHeartbeats 16000000
set_option maxRecDepth 100000
theorem renter_bad (r m : Int) (p : Option Addr) (c : Nat) (L : List It) (x : It) (w : World) (h : Li w p c L) (hn : L.length ≤ 4096) (he : rfd m L x ≠ 0) :
    Calls Tryz.prog 10 #[.agg #[.int .i64 r, .int .i64 m, .slice p L.length c], .agg #[.int .u64 x.id, .int .u32 x.mb, .int .i64 x.sd, .int .i64 x.ty, .int .i64 x.pr, .int .u64 x.qt]] w fun e w' => e = .returned (.tuple #[.agg #[.int .i64 r, .int .i64 m, .slice p L.length c], .int .i64 (rfd m L x)]) ∧ Below w.heap.size w w' := by
  by_cases hs : x.sd = 1 ∨ x.sd = 2
  · by_cases hy : x.ty = 1 ∨ x.ty = 2
    · by_cases hp : 0 ≤ x.pr ∧ x.pr < 262144
      · have hpp : isP x.pr = true := decide_eq_true hp
        by_cases hz : x.ty = 2 ∧ x.pr ≠ 0
        · have e : rfd m L x = 94 := by have : ck x = 94 := by unfold ck; rw [if_neg (fun e => e hs), if_neg (fun e => e hy), if_pos (.inr hz)]
                                        unfold rfd; rw [this]; rfl
          rcases hs with hs | hs
          · exact re94b_12 r m p c L x w h hn (by simp [hs]) (by simp [hz.1]) (by simp [hz.1]) (by simp [hz.1]) hpp (by simpa using hz.2) e
          · exact re94b_22 r m p c L x w h hn (by simp [hs]) (by simp [hs]) (by simp [hz.1]) (by simp [hz.1]) (by simp [hz.1]) hpp (by simpa using hz.2) e
        · have hpz : x.ty = 2 → x.pr = 0 := fun e1 => Decidable.byContradiction (fun e2 => hz ⟨e1, e2⟩)
          have hk3 : ¬ (¬ (0 ≤ x.pr ∧ x.pr < 262144) ∨ (x.ty = 2 ∧ x.pr ≠ 0)) := fun e1 => e1.elim (fun e2 => e2 hp) hz
          by_cases hq1 : x.qt < 1
          · have e : rfd m L x = 95 := by have : ck x = 95 := by unfold ck; rw [if_neg (fun e => e hs), if_neg (fun e => e hy), if_neg hk3, if_pos (.inl hq1)]
                                          unfold rfd; rw [this]; rfl
            rcases hs with hs | hs <;> rcases hy with hy | hy
            · exact re95a_11 r m p c L x w h hn (by simp [hs]) (by simp [hy]) (by simp [hy]) hpp (decide_eq_true hq1) e
            · exact re95a_12 r m p c L x w h hn (by simp [hs]) (by simp [hy]) (by simp [hy]) (by simp [hy]) hpp (by have := hpz; simp; omega) (decide_eq_true hq1) e
            · exact re95a_21 r m p c L x w h hn (by simp [hs]) (by simp [hs]) (by simp [hy]) (by simp [hy]) hpp (decide_eq_true hq1) e
            · exact re95a_22 r m p c L x w h hn (by simp [hs]) (by simp [hs]) (by simp [hy]) (by simp [hy]) (by simp [hy]) hpp (by have := hpz; simp; omega) (decide_eq_true hq1) e
          · by_cases hq2 : 4294967295 < x.qt
            · have e : rfd m L x = 95 := by have : ck x = 95 := by unfold ck; rw [if_neg (fun e => e hs), if_neg (fun e => e hy), if_neg hk3, if_pos (.inr hq2)]
                                            unfold rfd; rw [this]; rfl
              rcases hs with hs | hs <;> rcases hy with hy | hy
              · exact re95b_11 r m p c L x w h hn (by simp [hs]) (by simp [hy]) (by simp [hy]) hpp (decide_eq_false hq1) (decide_eq_true hq2) e
              · exact re95b_12 r m p c L x w h hn (by simp [hs]) (by simp [hy]) (by simp [hy]) (by simp [hy]) hpp (by have := hpz; simp; omega) (decide_eq_false hq1) (decide_eq_true hq2) e
              · exact re95b_21 r m p c L x w h hn (by simp [hs]) (by simp [hs]) (by simp [hy]) (by simp [hy]) hpp (decide_eq_false hq1) (decide_eq_true hq2) e
              · exact re95b_22 r m p c L x w h hn (by simp [hs]) (by simp [hs]) (by simp [hy]) (by simp [hy]) (by simp [hy]) hpp (by have := hpz; simp; omega) (decide_eq_false hq1) (decide_eq_true hq2) e
            · have hck : ck x = 0 := by unfold ck; rw [if_neg (fun e => e hs), if_neg (fun e => e hy), if_neg hk3, if_neg (by omega)]
              have hfh := fni_hsi x.id L
              by_cases hi : x.id = 0
              · have e : rfd m L x = 97 := by unfold rfd; rw [if_neg (by simpa using hck), if_pos (.inl hi)]
                rcases hs with hs | hs <;> rcases hy with hy | hy
                · exact re97a_11 r m p c L x w h hn (by simp [hs]) (by simp [hy]) (by simp [hy]) hpp (decide_eq_false hq1) (decide_eq_false hq2) (by simpa using hi) e
                · exact re97a_12 r m p c L x w h hn (by simp [hs]) (by simp [hy]) (by simp [hy]) (by simp [hy]) hpp (by have := hpz; simp; omega) (decide_eq_false hq1) (decide_eq_false hq2) (by simpa using hi) e
                · exact re97a_21 r m p c L x w h hn (by simp [hs]) (by simp [hs]) (by simp [hy]) (by simp [hy]) hpp (decide_eq_false hq1) (decide_eq_false hq2) (by simpa using hi) e
                · exact re97a_22 r m p c L x w h hn (by simp [hs]) (by simp [hs]) (by simp [hy]) (by simp [hy]) (by simp [hy]) hpp (by have := hpz; simp; omega) (decide_eq_false hq1) (decide_eq_false hq2) (by simpa using hi) e
              · by_cases hf : 0 ≤ fni x.id L
                · have e : rfd m L x = 97 := by unfold rfd; rw [if_neg (by simpa using hck), if_pos (.inr (by rw [← hfh]; exact decide_eq_true hf))]
                  rcases hs with hs | hs <;> rcases hy with hy | hy
                  · exact re97b_11 r m p c L x w h hn (by simp [hs]) (by simp [hy]) (by simp [hy]) hpp (decide_eq_false hq1) (decide_eq_false hq2) (by simpa using hi) hf e
                  · exact re97b_12 r m p c L x w h hn (by simp [hs]) (by simp [hy]) (by simp [hy]) (by simp [hy]) hpp (by have := hpz; simp; omega) (decide_eq_false hq1) (decide_eq_false hq2) (by simpa using hi) hf e
                  · exact re97b_21 r m p c L x w h hn (by simp [hs]) (by simp [hs]) (by simp [hy]) (by simp [hy]) hpp (decide_eq_false hq1) (decide_eq_false hq2) (by simpa using hi) hf e
                  · exact re97b_22 r m p c L x w h hn (by simp [hs]) (by simp [hs]) (by simp [hy]) (by simp [hy]) (by simp [hy]) hpp (by have := hpz; simp; omega) (decide_eq_false hq1) (decide_eq_false hq2) (by simpa using hi) hf e
                · by_cases hm : m ≤ (L.length : Int)
                  · have e : rfd m L x = 98 := by unfold rfd; rw [if_neg (by simpa using hck), if_neg (by rw [← hfh]; simp [hi, hf]), if_pos hm]
                    rcases hs with hs | hs <;> rcases hy with hy | hy
                    · exact re98_11 r m p c L x w h hn (by simp [hs]) (by simp [hy]) (by simp [hy]) hpp (decide_eq_false hq1) (decide_eq_false hq2) (by simpa using hi) hf hm e
                    · exact re98_12 r m p c L x w h hn (by simp [hs]) (by simp [hy]) (by simp [hy]) (by simp [hy]) hpp (by have := hpz; simp; omega) (decide_eq_false hq1) (decide_eq_false hq2) (by simpa using hi) hf hm e
                    · exact re98_21 r m p c L x w h hn (by simp [hs]) (by simp [hs]) (by simp [hy]) (by simp [hy]) hpp (decide_eq_false hq1) (decide_eq_false hq2) (by simpa using hi) hf hm e
                    · exact re98_22 r m p c L x w h hn (by simp [hs]) (by simp [hs]) (by simp [hy]) (by simp [hy]) (by simp [hy]) hpp (by have := hpz; simp; omega) (decide_eq_false hq1) (decide_eq_false hq2) (by simpa using hi) hf hm e
                  · exfalso
                    apply he
                    unfold rfd
                    rw [if_neg (by simpa using hck), if_neg (by rw [← hfh]; simp [hi, hf]), if_neg hm]
      · have e : rfd m L x = 94 := by have : ck x = 94 := by unfold ck; rw [if_neg (fun e => e hs), if_neg (fun e => e hy), if_pos (.inl hp)]
                                      unfold rfd; rw [this]; rfl
        have hpp : isP x.pr = false := decide_eq_false hp
        rcases hs with hs | hs <;> rcases hy with hy | hy
        · exact re94a_11 r m p c L x w h hn (by simp [hs]) (by simp [hy]) (by simp [hy]) hpp e
        · exact re94a_12 r m p c L x w h hn (by simp [hs]) (by simp [hy]) (by simp [hy]) (by simp [hy]) hpp e
        · exact re94a_21 r m p c L x w h hn (by simp [hs]) (by simp [hs]) (by simp [hy]) (by simp [hy]) hpp e
        · exact re94a_22 r m p c L x w h hn (by simp [hs]) (by simp [hs]) (by simp [hy]) (by simp [hy]) (by simp [hy]) hpp e
    · have e : rfd m L x = 93 := by have : ck x = 93 := by unfold ck; rw [if_neg (fun e => e hs), if_pos hy]
                                    unfold rfd; rw [this]; rfl
      have y1 : (x.ty != 1) = true := by simp; omega
      have y2 : (x.ty != 2) = true := by simp; omega
      rcases hs with hs | hs
      · exact re93_1 r m p c L x w h hn (by simp [hs]) y1 y2 e
      · exact re93_2 r m p c L x w h hn (by simp [hs]) (by simp [hs]) y1 y2 e
  · have e : rfd m L x = 92 := by have : ck x = 92 := by unfold ck; rw [if_pos hs]
                                  unfold rfd; rw [this]; rfl
    exact re92 r m p c L x w h hn (by simp; omega) (by simp; omega) e
end Go.Proofs.YtnmkfdndfhefiaaGreat
