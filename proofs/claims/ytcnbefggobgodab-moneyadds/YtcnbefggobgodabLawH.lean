/-
  MoneyAdds: amounts add up in any order.
-/
import Derived.Test.YtcnbefggobgodabTexB
import Derived.Test.YtcnbefggobgodabMonG
import Derived.Deep.RegionHeld3
namespace Go.Proofs.Ytcnbefggobgodab.moneyAdds
open Go.RowKit Go.Deep MonM TexM
set_option linter.unusedVariables false

theorem eqArr (a b c d : Int) (w : World) : (Op.equalIn 10000 31 (.agg #[.int .u64 a, .int .u64 b]) (.agg #[.int .u64 c, .int .u64 d])).run Try.prog w = .ok (a == c && b == d) w := by
  have u3 := Try.underlying22
  have a3 := Try.isAgg22
  have z3 := Try.sizeOf22
  rw [show (10000 : Nat) = 9999 + 1 from rfl, Op.equalIn]
  simp only [Sem.run_bind, run_underlying Try.underlying31, Result.andThen_ok]
  simp only [Std.Legacy.Range.forIn_eq_forIn_range', Std.Legacy.Range.size, Nat.sub_zero, Nat.add_sub_cancel, Nat.div_one, List.range'_succ, List.range'_zero, List.forIn_cons, List.forIn_nil]
  go_simp
  by_cases h1 : a = c <;> by_cases h2 : b = d <;> simp [h1, h2]

/-- a box of two words. -/
def Bx (wr : World) (b : Nat) (H L : Int) : Prop := wr.cell? ⟨b, 0, none⟩ = some (.int .u64 H) ∧ wr.cell? ⟨b, 1, none⟩ = some (.int .u64 L) ∧ b < wr.heap.size
theorem Bx.to {w w' : World} {b : Nat} {H L : Int} (h : Bx w b H L) (hb : Below w.heap.size w w') : Bx w' b H L :=
  ⟨(hb.cell h.2.2).trans h.1, (hb.cell h.2.2).trans h.2.1, Nat.lt_of_lt_of_le h.2.2 hb.size⟩
theorem Bx.alloc {w : World} {b : Nat} {H L : Int} (h : Bx w b H L) (o : Obj) : Bx (w.alloc o) b H L := h.to (bal (b0 w) o)
theorem bx_new (w : World) (H L : Int) (t : TypeId) : Bx (w.alloc (.cells #[.int .u64 H, .int .u64 L] t)) w.heap.size H L := by
  refine ⟨by simp [go_sem], by simp [go_sem], by simp⟩
theorem Bx.other {w : World} {b : Nat} {H L : Int} (h : Bx w b H L) (c i : Nat) (v : Value) (hne : ¬ c = b) : Bx (w.setCell ⟨c, i, none⟩ v) b H L :=
  ⟨(World.cell?_setCell_other _ _ _ _ (by simp; try omega)).trans h.1, (World.cell?_setCell_other _ _ _ _ (by simp; try omega)).trans h.2.1, by simpa [World.setCell] using h.2.2⟩
theorem keepB {W w' : World} {b : Nat} {H L : Int} (k : Bx W b H L) (h : Below W.heap.size W w') :
    (w'.cell? ⟨b, 0, none⟩ = some (.int .u64 H) ∧ w'.cell? ⟨b, 1, none⟩ = some (.int .u64 L)) ∧ Below W.heap.size W w' := ⟨⟨(k.to h).1, (k.to h).2.1⟩, h⟩
theorem two_to {w w' : World} {b : Nat} {v : Int} (h : Two w b v) (hb : Below w.heap.size w w') : Two w' b v := rowIs_below h hb
theorem two_drew {w : World} {b : Nat} {v : Int} (h : Two w b v) : Two w.drew b v := World.rowIs.drew h
theorem two_bx {w : World} {b : Nat} {v : Int} (h : Two w b v) (q : Int) : Bx ((w.setCell ⟨b, 0, none⟩ (.int .u64 (hiW q))).setCell ⟨b, 1, none⟩ (.int .u64 (loW q))) b (hiW q) (loW q) :=
  ⟨(h.set q).c0, (h.set q).c1, (h.set q).lt⟩
theorem bx_new1 (w : World) (H L A B : Int) (t u : TypeId) : Bx ((w.alloc (.cells #[.int .u64 A, .int .u64 B] u)).alloc (.cells #[.int .u64 H, .int .u64 L] t)) (w.heap.size + 1) H L := by
  have h := bx_new (w.alloc (.cells #[.int .u64 A, .int .u64 B] u)) H L t
  simpa using h

end Go.Proofs.Ytcnbefggobgodab.moneyAdds
