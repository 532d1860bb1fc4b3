/-
  The document's Decode; lent, kept, full.
-/
import Derived.Test.YtcokggeodbipjaaDoorTzE
import Derived.Test.YtcokggeodbipjaaDoorTxU
namespace Go.Proofs.YtcokggeodbipjaaDoor
open Go.RowKit Go.Deep Go.Lib Go.Shelf Go.Sort
set_option linter.unusedVariables false

/-- the document's Read. -/
theorem read_any (l : List UInt8) (q : Option Addr) (cap : Nat) (w : World) (hl : l.length < 4611686018427387904) (hcap : l.length ≤ cap) (hcm : cap < 9223372036854775808) (hS : Sb w q l) :
    Calls Tryd.prog 43 #[.slice q l.length cap] w fun e w' => ReadP l w e w' := by
  by_cases h : (headR l).2.2 = 0
  · obtain ⟨⟨f, s⟩, p, e, hx⟩ : ∃ z p e, headR l = (z, p, e) := ⟨_, _, _, rfl⟩
    rw [hx] at h
    simp only at h
    subst h
    obtain ⟨rfl, _, h1, _, h2, _⟩ := headR_ok hx
    obtain ⟨b, o, rfl, _⟩ := hS 0 (by omega)
    exact read_ok l b o cap w hl hcap hcm hS f s hx
  · exact read_bad l q cap w hl hcap hcm hS h
set_option maxHeartbeats 2000000 in
set_option maxRecDepth 100000 in
/-- the document's Decode. -/
theorem rdecode_any (l : List UInt8) (q : Option Addr) (cap : Nat) (w : World) (hl : l.length < 4611686018427387904) (hcap : l.length ≤ cap) (hcm : cap < 9223372036854775808) (hS : Sb w q l) :
    Calls Tryd.prog 24 #[.slice q l.length cap] w fun e w' => ∃ v, e = .returned (.tuple #[.string ⟨(decR l).1.toArray⟩, v, .int .i64 ((decR l).2.2.1 : Nat), .int .i64 (decR l).2.2.2]) ∧ OwnT w.heap.size w w' v (decR l).2.1 := by
  have RD := hid (read_any l q cap w hl hcap hcm hS)
  unfold ReadP at RD
  obtain ⟨kd, tg, pl, why, hd⟩ : ∃ a b c d, decR l = (a, b, c, d) := ⟨_, _, _, _, rfl⟩
  rw [hd] at RD ⊢
  simp only at RD ⊢
  obtain ⟨WH, hWH⟩ : ∃ x, decide ((outE l).2.2 = 0) = x := ⟨_, rfl⟩
  obtain ⟨SZ, hSZ⟩ : ∃ x, (if (outE l).2.2 = 0 then (outE l).1.2 + 7 else 0 : Nat) = x := ⟨_, rfl⟩
  rw [hWH, hSZ] at RD
  clear hd hWH hSZ hS
  unfold ansV at RD
  go_enter Tryd.func24, Tryd.ntmps24
  go_wp2_with (first | (go_at_call 43; refine RD.out.mono ?_; rintro e w1 ⟨v, rfl, hO⟩; obtain ⟨qv, cv, rfl, _, _, _⟩ := hO.form; have HO := hid (hO.on (ball w1 (.cells #[.string ⟨kd.toArray⟩, .slice qv tg.length cv, .int .i64 pl, .int .i64 why, .bool WH, .int .i64 SZ] 67))); clear hO; obtain ⟨x0, x1, x2, x3, x4, x5⟩ := cells67 (show (w1.alloc (.cells #[.string ⟨kd.toArray⟩, .slice qv tg.length cv, .int .i64 pl, .int .i64 why, .bool WH, .int .i64 SZ] 67)).heap[w1.heap.size]? = some (.cells #[.string ⟨kd.toArray⟩, .slice qv tg.length cv, .int .i64 pl, .int .i64 why, .bool WH, .int .i64 SZ] 67 (0, 0)) from heap_alloc_new _ _)))
  go_quiet (fail)
  go_wp2
  refine bodyPost_ret (res4 Tryd.f24 2 3 4 5 Tryd.results24 _ _ _ _ _ _ (by rfl) (by rfl) (by rfl) (by rfl)) rfl ?_
  exact ⟨_, rfl, HO.out.on ⟨rfl, rfl, rfl, Nat.le_refl _, fun _ _ => rfl⟩⟩
end Go.Proofs.YtcokggeodbipjaaDoor
