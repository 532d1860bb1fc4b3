/-
  Bytes and an array of bytes that came in, with their bound.
-/
import Derived.Test.YtndpihbillfhbaaDoorArgX
import Derived.Test.YtndpihbillfhbaaDoorWaV
namespace Go.Proofs.YtndpihbillfhbaaDoor
open Go.ChangeShapes Go.WideShapes Go.ChangeAt Go.RowKit Go.Joins Go.Deep Crc
set_option linter.unusedVariables false
section
variable {H : Type} {enc : TypeId × Value → H} {W : World} {base b0 : Nat} {held : Bool} {r : Reach}
theorem bulk_lits (k : IntKind) : ∀ zs : List Int, Rows.uptoBulkAll (H := H) (lits k zs) = zs.length
  | [] => by simp [lits, Rows.uptoBulkAll]
  | z :: zs => by
    have := bulk_lits k zs
    unfold lits at this ⊢
    rw [List.map_cons, Rows.uptoBulkAll, Rows.uptoBulk, this]
    · simp; omega
    all_goals (intro _ h; cases h)
theorem open_sq {v : Value} {d : DataW H} {p : List MemPlace} (hv : Value.okWide Tryd.prog W r b0 22 v) (h : DataW.Trod enc Tryd.prog W base (fun _ => true) held 22 v d p) :
    ∃ q c xs, v = .slice q (xs : List Nat).length c ∧ Sq W q c xs ∧ Oct xs ∧ xs.length + 1 ≤ Rows.uptoBulk d := by
  obtain ⟨a0, len0, cap0, rfl⟩ := okWide_slice Tryd.underlying22 hv
  obtain ⟨fuel, hf⟩ := h
  rcases open_ints Tryd.underlying22 Tryd.underlying5 (by kernel_rfl) hf with ⟨hcs, hy⟩ | ⟨x, l, c, zs, hcs, _, hl, hm, hz, hd, hcell, hwz⟩
  · simp [Value.cells] at hcs
    obtain ⟨rfl, rfl, rfl⟩ := hcs
    cases hy
    exact ⟨none, 0, [], rfl, ⟨Nat.le_refl _, fun _ => rfl, .inl rfl⟩, (fun x hx => by simp at hx), by simp [Rows.uptoBulk]⟩
  · simp [Value.cells] at hcs
    obtain ⟨rfl, rfl, rfl⟩ := hcs
    simp only [if_true] at hz
    cases hd
    refine ⟨some x, cap0, (zs.take len0).map Int.toNat, by simp; omega, ⟨by simp; omega, (fun e => by cases e), ?_⟩, ?_, ?_⟩
    · by_cases h0 : len0 = 0
      · subst h0
        exact .inl (by simp)
      · right
        obtain ⟨b, off, spot⟩ := x
        have hc := hcell 0 (by omega)
        have hspot : spot = none := by simpa [Addr.add] using World.cell?_spot hc
        subst hspot
        refine ⟨b, off, rfl, ?_⟩
        intro i hi
        have hi' : i < len0 := by simp at hi; omega
        have h2 := hcell i (by omega)
        rw [Addr.add_mid] at h2
        rw [h2]
        obtain ⟨n, en, _⟩ := nat_u8 (hwz _ (List.getElem_mem (show i < zs.length by omega)))
        simp
        simp [show i < zs.length by omega]
        omega
    · intro y hy
      simp only [List.mem_map] at hy
      obtain ⟨z, hz1, rfl⟩ := hy
      obtain ⟨n, rfl, h256⟩ := nat_u8 (hwz _ (List.mem_of_mem_take hz1))
      simpa using h256
    · simp only [Rows.uptoBulk, bulk_lits]
      simp
theorem okWide_arr {n : Nat} {e t : TypeId} {P : Program} {w : World} {v : Value} (ht : P.underlying t = some (.array n e)) (h : Value.okWide P w r b0 t v) : ∃ cs, v = .agg cs ∧ cs.size = P.cellsOf t := by
  simp only [Value.okWide, ht] at h
  obtain ⟨cs, h1, h2, _⟩ := h
  exact ⟨cs, h1, h2⟩
theorem cells32 : Tryd.prog.cellsOf 32 = 64 := by kernel_rfl
theorem cells5' : Tryd.prog.cellsOf 5 = 1 := by kernel_rfl
theorem open_arr {v : Value} {d : DataW H} {p : List MemPlace} (hv : Value.okWide Tryd.prog W r b0 32 v) (h : DataW.Trod enc Tryd.prog W base (fun _ => true) held 32 v d p) :
    ∃ bs : List Nat, v = .agg (bv bs).toArray ∧ bs.length = 64 ∧ Oct bs := by
  obtain ⟨cs, rfl, hsz⟩ := okWide_arr Tryd.underlying32 hv
  rw [cells32] at hsz
  obtain ⟨fuel, hf⟩ := h
  obtain ⟨xs, m, _, _, _, hn, hel⟩ := DataW.trod_array Tryd.underlying32 hf
  obtain ⟨l⟩ := cs
  have hl : l.length = 64 := by simpa using hsz
  have g : ∀ i (hi : i < l.length), ∃ n : Nat, l[i] = .int .u8 (n : Int) ∧ n < 256 := by
    intro i hi
    have hh := hel i (by omega)
    rw [cells5', List.getElem?_eq_getElem (by omega), Nat.mul_one] at hh
    obtain ⟨a, ea, _, wa⟩ := DataW.trod_int Tryd.underlying5 hh
    obtain ⟨n, rfl, hn⟩ := nat_u8 wa
    refine ⟨n, ?_, hn⟩
    have ea' : List.take 1 (List.drop i l) = [Value.int IntKind.u8 (n : Int)] := by simpa [Value.cells] using ea
    have e5 : List.drop i l = l[i] :: List.drop (i + 1) l := List.drop_eq_getElem_cons hi
    rw [e5, List.take_succ_cons, List.take_zero] at ea'
    exact List.head_eq_of_cons_eq ea'
  have key : ∀ l : List Value, (∀ i (hi : i < l.length), ∃ n : Nat, l[i] = .int .u8 (n : Int) ∧ n < 256) → ∃ bs : List Nat, l = bv bs ∧ Oct bs := by
    intro l
    induction l with
    | nil => intro _; exact ⟨[], rfl, fun x hx => by simp at hx⟩
    | cons x l ih =>
      intro hg
      obtain ⟨n, e1, h1⟩ := hg 0 (by simp)
      obtain ⟨bs, e2, h2⟩ := ih (fun i hi => by
        have := hg (i + 1) (by simpa using hi)
        rwa [List.getElem_cons_succ] at this)
      refine ⟨n :: bs, ?_, ?_⟩
      · simp only [List.getElem_cons_zero] at e1
        rw [e1, e2]; simp [bv]
      · intro y hy
        rcases List.mem_cons.1 hy with rfl | hy
        · exact h1
        · exact h2 y hy
  obtain ⟨bs, rfl, ho⟩ := key l g
  exact ⟨bs, rfl, by simpa [bv_len] using hl, ho⟩
end
end Go.Proofs.YtndpihbillfhbaaDoor
