/-
  The document's Enter, whatever comes.
-/
import Derived.Test.YtnmkfdndfhefiaaGreatQuF11
import Derived.Test.YtnmkfdndfhefiaaGreatQuF12
import Derived.Test.YtnmkfdndfhefiaaGreatQuF21
import Derived.Test.YtnmkfdndfhefiaaGreatQuF22
namespace Go.Proofs.YtnmkfdndfhefiaaGreat
open Go.RowKit Go.Deep Go.Shelf
set_option linter.unusedVariables false
set_option linter.unusedSimpArgs false
theorem renter_ok (r m : Int) (p : Option Addr) (c : Nat) (L : List It) (x : It) (w : World) (h : Li w p c L) (hn : L.length ≤ 4096) (he : rfd m L x = 0) :
    Calls Tryz.prog 10 #[.agg #[.int .i64 r, .int .i64 m, .slice p L.length c], .agg #[.int .u64 x.id, .int .u32 x.mb, .int .i64 x.sd, .int .i64 x.ty, .int .i64 x.pr, .int .u64 x.qt]] w fun e w' => ∃ p' c', e = .returned (.tuple #[.agg #[.int .i64 r, .int .i64 m, .slice p' (L.length + 1) c'], .int .i64 0]) ∧ Li w' p' c' (L ++ [x]) ∧ Below w.heap.size w w' ∧ ∀ g, OfP p' g → w.heap.size ≤ g := by
  have hck : ck x = 0 := by
    unfold rfd at he
    by_cases h0 : ck x = 0
    · exact h0
    · rw [if_pos h0] at he; exact he
  obtain ⟨hk, hs⟩ := ck_ok hck
  unfold rfd at he
  rw [if_neg (by simpa using hck)] at he
  have h1 : ¬ (x.id = 0 ∨ hsi x.id L = true) := fun e => by rw [if_pos e] at he; omega
  rw [if_neg h1] at he
  have h2 : ¬ m ≤ (L.length : Int) := fun e => by rw [if_pos e] at he; omega
  have hf : ¬ 0 ≤ fni x.id L := fun e => h1 (.inr (by rw [← fni_hsi]; exact decide_eq_true e))
  have hp : isP x.pr = true := decide_eq_true ⟨hk.p0, hk.p1⟩
  have hz : (x.id == 0) = false := by simpa using fun e => h1 (.inl e)
  have q0 := hk.q0
  have q1 := hk.q1
  have d1 : decide (x.qt < 1) = false := decide_eq_false (by omega)
  have d2 : decide (4294967295 < x.qt) = false := decide_eq_false (by omega)
  rcases hs with hs | hs <;> rcases hk.ty with hy | hy
  · exact re_ok11 r m p c L x w h hn (by simp [hs]) (by simp [hy]) (by simp [hy]) hp d1 d2 hz hf h2
  · exact re_ok12 r m p c L x w h hn (by simp [hs]) (by simp [hy]) (by simp [hy]) (by simp [hy]) (by simp [hk.mz hy]) hp d1 d2 hz hf h2
  · exact re_ok21 r m p c L x w h hn (by simp [hs]) (by simp [hs]) (by simp [hy]) (by simp [hy]) hp d1 d2 hz hf h2
  · exact re_ok22 r m p c L x w h hn (by simp [hs]) (by simp [hs]) (by simp [hy]) (by simp [hy]) (by simp [hy]) (by simp [hk.mz hy]) hp d1 d2 hz hf h2
end Go.Proofs.YtnmkfdndfhefiaaGreat
