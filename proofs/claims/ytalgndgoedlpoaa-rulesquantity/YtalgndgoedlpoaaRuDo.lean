/-
  A book does what it is told.
-/
import Derived.Test.YtalgndgoedlpoaaRuTk
import Derived.Test.YtalgndgoedlpoaaRuQ
namespace Go.Proofs.Ytalgndgoedlpoaa
open Go.RowKit Go.Deep Go.Shelf
set_option linter.unusedVariables false
set_option linter.unusedSimpArgs false
set_option maxHeartbeats 8000000
set_option maxRecDepth 100000
/-- an order is found. -/
structure Fd (b : Bs) (id : Int) (o : Or) (s : Int) (k i : Nat) : Prop where
  ff : fo b id = (o, s, true)
  fs : s = (k : Int) + 1
  fk : k < 2
  fi : fnd id (b.sl s) = (i : Int)
  lt : i < (b.sl s).length
  mem : ∃ j, (j, o) ∈ b.sl s
theorem fo_true {b : Bs} {id : Int} (h : (fo b id).2.2 = true) : ∃ o s k i, Fd b id o s k i := by
  unfold fo at h
  split at h
  · rename_i h1
    have hg := fnd_ge id b.l1
    refine ⟨(b.l1[(fnd id b.l1).toNat]'(by omega)).2, 1, 0, (fnd id b.l1).toNat, ?_, rfl, by omega, ?_, ?_, ?_⟩
    · unfold fo; rw [dif_pos h1]
    · show fnd id b.l1 = _; omega
    · show _ < b.l1.length; omega
    · exact ⟨(b.l1[(fnd id b.l1).toNat]'(by omega)).1, List.getElem_mem _⟩
  · rename_i h1
    split at h
    · rename_i h2
      have hg := fnd_ge id b.l2
      refine ⟨(b.l2[(fnd id b.l2).toNat]'(by omega)).2, 2, 1, (fnd id b.l2).toNat, ?_, rfl, by omega, ?_, ?_, ?_⟩
      · unfold fo; rw [dif_neg h1, dif_pos h2]
      · show fnd id b.l2 = _; omega
      · show _ < b.l2.length; omega
      · exact ⟨(b.l2[(fnd id b.l2).toNat]'(by omega)).1, List.getElem_mem _⟩
    · cases h
theorem Fd.side {b : Bs} {id : Int} {o : Or} {s : Int} {k i : Nat} (h : Fd b id o s k i) : s = 1 ∨ s = 2 := by
  have h1 := h.fs
  have h2 := h.fk
  omega
theorem chO_zero {c : Cm} (h : chO c = 0) : (c.sd = 1 ∨ c.sd = 2) ∧ 1 ≤ c.qt ∧ c.qt ≤ 4294967295 := by
  unfold chO at h
  split at h
  · cases h
  · rename_i h1
    split at h
    · cases h
    · split at h
      · cases h
      · split at h
        · cases h
        · rename_i h4
          refine ⟨?_, by omega, by omega⟩
          simp only [isSd, Bool.or_eq_false_iff, beq_eq_false_iff_ne] at h1
          omega
/-- what is not refused. -/
theorem rfs_zero {b : Bs} {c : Cm} (h : rfs b c = 0) : (c.kd = 2 ∧ ∃ o s k i, Fd b c.tg o s k i) ∨ (c.kd = 1 ∧ (c.sd = 1 ∨ c.sd = 2) ∧ 1 ≤ c.qt ∧ c.qt ≤ 4294967295) ∨ (c.kd = 3 ∧ (∃ o s k i, Fd b c.tg o s k i) ∧ 1 ≤ c.qt ∧ c.qt ≤ 4294967295) := by
  unfold rfs at h
  split at h
  · cases h
  · rename_i h1
    split at h
    · cases h
    · rename_i h2
      have hfo : c.kd ≠ 1 → (fo b c.tg).2.2 = true := fun hk => by
        cases hf : (fo b c.tg).2.2 with
        | true => rfl
        | false => exact absurd ⟨hk, hf⟩ h2
      by_cases k1 : c.kd = 1
      · have e : chk c = chO c := by simp [chk, k1]
        split at h
        · rw [e] at h
          exact .inr (.inl ⟨k1, chO_zero h⟩)
        · rename_i h3
          have : chO c = 0 := by
            rw [← e]
            by_cases hc : chk c = 0
            · exact hc
            · exact absurd (.inl hc) h3
          exact .inr (.inl ⟨k1, chO_zero this⟩)
      · by_cases k2 : c.kd = 2
        · exact .inl ⟨k2, fo_true (hfo k1)⟩
        · by_cases k3 : c.kd = 3
          · have e : chk c = chO { c with sd := 1, ty := 1 } := by simp [chk, k3]
            have h0 : chO { c with sd := 1, ty := 1 } = 0 := by
              rw [← e]
              split at h
              · exact h
              · rename_i h3
                by_cases hc : chk c = 0
                · exact hc
                · exact absurd (.inl hc) h3
            exact .inr (.inr ⟨k3, fo_true (hfo k1), (chO_zero h0).2⟩)
          · exact absurd (by simp [chk, k1, k2, k3]) h1
theorem Td.neR {w0 : World} {G : Nat → Prop} {T B R : Nat} {b : Bs} {ve : Value} {es : List Ev} {U : World} {c : Array Value} {t : TypeId} (h : Td w0 G T B b ve es U) (hR : U.heap[R]? = some (.cells c t (0, 0))) (h1 : t ≠ 90 ∧ t ≠ 92 ∧ t ≠ 50 ∧ t ≠ 64 ∧ t ≠ 58) : ¬ gfp b T B ve R := by
  rintro ((e | e | e) | e)
  · exact row_ne hR h.tn.row h1.2.2.2.1 e
  · exact row_ne hR h.tn.bm.row h1.1 e
  · obtain ⟨c', e'⟩ := own_ty h.tn.ev e; exact row_ne hR e' h1.2.2.2.2 rfl
  · exact h.tn.bm.ne hR h1.1 h1.2.1 h1.2.2.1 e rfl
/-- an order is struck out. -/
theorem Td.fewer {w0 : World} {G : Nat → Prop} {T B : Nat} {b : Bs} {ve : Value} {es es' : List Ev} {w w' : World} {s : Int} {i : Nat} (hs : s = 1 ∨ s = 2) (h : Td w0 G T B b ve es w) (ht : Told w T B (b.del s i).told ve es' (cfp b T B ve s) w') : ∃ ve', Td w0 G T B (b.del s i).told ve' es' w' ∧ Kp (gfp b T B ve) w w' := by
  obtain ⟨ve', h1, h2, h3⟩ := ht
  have hin : ∀ j, cfp b T B ve s j → gfp b T B ve j := by
    rintro j (h' | h')
    · exact .inl h'
    · exact .inr ((fp_iff hs).2 (.inr (.inl h')))
  have sz := h.kp.size
  refine ⟨ve', ⟨h1, h.keep h3 hin, ?_⟩, h3.mono (fun j _ hj => hin j hj)⟩
  have e1 := b.put_sl s hs (b.sp s) (b.sc s) ((b.sl s).eraseIdx i)
  have e2 := b.put_so s hs (b.sp s) (b.sc s) ((b.sl s).eraseIdx i)
  rintro j ((e | e | e) | e)
  · exact h.fr j (.inl (.inl e))
  · exact h.fr j (.inl (.inr (.inl e)))
  · rcases h2 j e with h' | h'
    · exact h.fr j (.inl (.inr (.inr h')))
    · exact .inr (by omega)
  · have e' : (b.put s (b.sp s) (b.sc s) ((b.sl s).eraseIdx i)).fp B j := e
    refine h.fr j (.inr ((fp_iff hs).2 ?_))
    rcases (fp_iff hs).1 e' with e | e | e | e | e
    · exact .inl e
    · rw [e1.2.1] at e; exact .inr (.inl e)
    · rw [e2.2.1] at e; exact .inr (.inr (.inl e))
    · rw [e1.1] at e
      obtain ⟨y, hy, rfl⟩ := List.mem_map.1 e
      exact .inr (.inr (.inr (.inl (List.mem_map.2 ⟨y, List.mem_of_mem_eraseIdx hy, rfl⟩))))
    · rw [e2.1] at e; exact .inr (.inr (.inr (.inr e)))
/-- what became of a book when it did what it was told. -/
def Did (b : Bs) (c : Cm) (b' : Bs) (es' : List Ev) : Prop :=
  (rfs b c ≠ 0 ∧ b' = b.told ∧ es' = [(evR c (rfs b c)).num (nx b.seq)]) ∨
  (rfs b c = 0 ∧ c.kd = 2 ∧ ∃ o s k i, Fd b c.tg o s k i ∧ b' = (b.del s i).told ∧ es' = [(evC c.tg (o.vi + o.hi) 1).num (nx b.seq)]) ∨
  (rfs b c = 0 ∧ c.kd = 1 ∧ Took b [] (ord (cmN b c)) (cmN b c).sd c.qt b' es') ∨
  (rfs b c = 0 ∧ c.kd = 3 ∧ ∃ o s k i, Fd b c.tg o s k i ∧ Took (b.del s i).told [(evC c.tg (o.vi + o.hi) 2).num (nx b.seq)] (ord (cmN b c)) (cmN b c).sd c.qt b' es')
end Go.Proofs.Ytalgndgoedlpoaa
