/-
  TexA
-/
import Derived.Test.YtegdhffejmbakaaMonD
import Derived.Test.YtegdhffejmbakaaGc
import Derived.Test.YtegdhffejmbakaaTexM
import Derived.Deep.OwnRows
import Derived.Laws.BytesArg
namespace Go.Proofs.Ytegdhffejmbakaa
open Go.RowKit Go.Deep MonM TexM
set_option linter.unusedVariables false
theorem rowIs_below {w w' : World} {b : Nat} {t : TypeId} {n : Nat} {f : Nat → Value} (h : w.rowIs b t n f) (hb : Below w.heap.size w w') : w'.rowIs b t n f :=
  h.of_block (hb.block b h.lt)
/-- two words in a box. -/
def Two (wr : World) (b : Nat) (v : Int) : Prop := wr.rowIs b 35 2 (fun j => .int .u64 (if j = 0 then hiW v else loW v))
theorem Two.c0 {wr : World} {b : Nat} {v : Int} (h : Two wr b v) : wr.cell? ⟨b, 0, none⟩ = some (.int .u64 (hiW v)) := h.cell (i := 0) (by decide)
theorem Two.c1 {wr : World} {b : Nat} {v : Int} (h : Two wr b v) : wr.cell? ⟨b, 1, none⟩ = some (.int .u64 (loW v)) := h.cell (i := 1) (by decide)
theorem Two.f0 {wr : World} {b : Nat} {v : Int} (h : Two wr b v) : wr.frozen? ⟨b, 0, none⟩ = false := h.frozen 0
theorem Two.f1 {wr : World} {b : Nat} {v : Int} (h : Two wr b v) : wr.frozen? ⟨b, 1, none⟩ = false := h.frozen 1
theorem two_new (w : World) (v : Int) : Two (w.alloc (.cells #[.int .u64 (hiW v), .int .u64 (loW v)] 35)) w.heap.size v := by
  refine (World.rowIs_alloc w #[.int .u64 (hiW v), .int .u64 (loW v)] 35 (fun j => .int .u64 (if j = 0 then hiW v else loW v)) ?_)
  intro i hi
  have hi' : i < 2 := hi
  have : i = 0 ∨ i = 1 := by omega
  rcases this with rfl | rfl <;> rfl
theorem Two.set {wr : World} {b : Nat} {v : Int} (h : Two wr b v) (u : Int) : Two ((wr.setCell ⟨b, 0, none⟩ (.int .u64 (hiW u))).setCell ⟨b, 1, none⟩ (.int .u64 (loW u))) b u := by
  refine ((World.rowIs.set h 0 (.int .u64 (hiW u))).set 1 (.int .u64 (loW u))).congr ?_
  intro i hi
  have : i = 0 ∨ i = 1 := by omega
  rcases this with rfl | rfl <;> simp
/-- the state: the bytes xs stand from a on, v is what is left of the digits, m the amount. -/
def St (w : World) (Rb : Nat) (m v : Int) (xs : List Int) (a : Nat) (wr : World) : Prop :=
  (∃ g : Nat → Int, wr.rowIs (w.heap.size + 1) 94 41 (fun j => .int .u8 (g j)) ∧ (∀ i, i < xs.length → g (a + i) = xs[i]?.getD 0)) ∧ a + xs.length = 41 ∧
  Two wr Rb v ∧ Two wr w.heap.size m ∧ Below w.heap.size w wr ∧ w.heap.size + 1 < Rb
theorem St.to {w wr w' : World} {Rb a : Nat} {m v : Int} {xs : List Int} (h : St w Rb m v xs a wr) (hb : Below wr.heap.size wr w') : St w Rb m v xs a w' := by
  obtain ⟨⟨g, g1, g2⟩, h1, h2, h3, h4, h5⟩ := h
  exact ⟨⟨g, rowIs_below g1 hb, g2⟩, h1, rowIs_below h2 hb, rowIs_below h3 hb, btr h4 hb, h5⟩
theorem St.put {w wr : World} {Rb a : Nat} {m v : Int} {xs : List Int} (h : St w Rb m v xs (a + 1) wr) (x : Int) : St w Rb m v (x :: xs) a (wr.setCell ⟨w.heap.size + 1, a, none⟩ (.int .u8 x)) := by
  obtain ⟨⟨g, g1, g2⟩, h1, h2, h3, h4, h5⟩ := h
  refine ⟨⟨fun j => if j = a then x else g j, (g1.set a (.int .u8 x)).congr ?_, ?_⟩, by simp; omega, ?_, ?_, h4.setCell (by dsimp only; omega) _, h5⟩
  · intro i hi; by_cases h : i = a <;> simp [h]
  · intro i hi
    cases i with
    | zero => simp
    | succ i =>
      have := g2 i (by simpa using hi)
      show (if a + (i + 1) = a then x else g (a + (i + 1))) = _
      rw [if_neg (by omega)]
      simp only [List.getElem?_cons_succ]
      rw [← this, show a + (i + 1) = a + 1 + i from by omega]
  · exact World.rowIs.setOther h2 (by dsimp only; omega) _
  · exact World.rowIs.setOther h3 (by dsimp only; omega) _
theorem St.setR {w wr : World} {Rb a : Nat} {m v : Int} {xs : List Int} (h : St w Rb m v xs a wr) (u : Int) :
    St w Rb m u xs a ((wr.setCell ⟨Rb, 0, none⟩ (.int .u64 (hiW u))).setCell ⟨Rb, 1, none⟩ (.int .u64 (loW u))) := by
  obtain ⟨⟨g, g1, g2⟩, h1, h2, h3, h4, h5⟩ := h
  exact ⟨⟨g, (g1.setOther (by dsimp only; omega) _).setOther (by dsimp only; omega) _, g2⟩, h1, h2.set u, World.rowIs.setOther (World.rowIs.setOther h3 (by dsimp only; omega) _) (by dsimp only; omega) _, (h4.setCell (by dsimp only; omega) _).setCell (by dsimp only; omega) _, h5⟩
/-- what the walk asks of a state. -/
theorem St.ask {w wr : World} {Rb a : Nat} {m v : Int} {xs : List Int} (h : St w Rb m v xs a wr) (j : Nat) (hj : j < 41) :
    ∃ y : Int, wr.cell? ⟨w.heap.size + 1, j, none⟩ = some (.int .u8 y) ∧ wr.frozen? ⟨w.heap.size + 1, j, none⟩ = false := by
  obtain ⟨⟨g, g1, g2⟩, h1, h2, h3, h4, h5⟩ := h
  exact ⟨g j, g1.cell hj, g1.frozen j⟩
theorem St.conv {w wr : World} {Rb a : Nat} {m v : Int} {xs : List Int} (h : St w Rb m v xs a wr) (n c : Nat) (hn : xs.length = n) :
    (convert 99 9 (.slice (some ⟨w.heap.size + 1, a, none⟩) n c)).run Try.prog wr = .ok (.string (strOfNums xs)) wr := by
  obtain ⟨⟨g, g1, g2⟩, h1, h2, h3, h4, h5⟩ := h
  refine run_convert_bytes_arg wr 99 5 Try.underlying99 Try.underlying5 (w.heap.size + 1) a n c xs hn ?_ 9 Try.underlying9
  intro i hi
  rw [g1.cell (by omega), g2 i (by omega)]
  simp [List.getD]
theorem st_start (w w1 : World) (m v : Int) (cs : Array Value) (hrep : cs = Array.replicate 41 (.int .u8 0))
    (hb : Below ((w.alloc (.cells #[.int .u64 (hiW m), .int .u64 (loW m)] 35)).alloc (.cells cs 94)).heap.size ((w.alloc (.cells #[.int .u64 (hiW m), .int .u64 (loW m)] 35)).alloc (.cells cs 94)) w1) :
    St w w1.heap.size m v [] 41 (w1.alloc (.cells #[.int .u64 (hiW v), .int .u64 (loW v)] 35)) := by
  have hcs : cs.size = 41 := by rw [hrep]; simp
  have hz : ∀ i, i < 41 → cs[i]? = some (.int .u8 0) := by intro i hi; rw [hrep]; simp [hi]
  have hsz := hb.size
  simp at hsz
  refine ⟨⟨fun _ => 0, ?_, fun i hi => by simp at hi⟩, rfl, two_new w1 v, ?_, bal (btr (bal (bal (b0 w) _) _) hb) _, by omega⟩
  · have h0 := World.rowIs_alloc (w.alloc (.cells #[.int .u64 (hiW m), .int .u64 (loW m)] 35)) cs 94 (fun _ => .int .u8 0) (by rw [hcs]; exact hz)
    rw [hcs] at h0
    have h1 := rowIs_below h0 hb
    have h2 := h1.alloc (.cells #[.int .u64 (hiW v), .int .u64 (loW v)] 35)
    simpa using h2
  · have h0 := World.rowIs.alloc (two_new w m) (.cells cs 94)
    exact World.rowIs.alloc (rowIs_below h0 hb) _
end Go.Proofs.Ytegdhffejmbakaa
