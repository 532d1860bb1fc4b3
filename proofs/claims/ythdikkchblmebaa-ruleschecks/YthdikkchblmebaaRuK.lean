/-
  An order that rests is cancelled; a command is refused.
-/
import Derived.Test.YthdikkchblmebaaRuJ
namespace Go.Proofs.Ythdikkchblmebaa
open Go.RowKit Go.Deep Go.Shelf
set_option linter.unusedVariables false
set_option linter.unusedSimpArgs false
set_option maxHeartbeats 4000000
set_option maxRecDepth 100000
/-- another list on a side. -/
def Bs.put (b : Bs) (s : Int) (p : Option Addr) (c : Nat) (l : LO) : Bs := if s = 1 then { b with p1 := p, c1 := c, l1 := l } else { b with p2 := p, c2 := c, l2 := l }
def Bs.del (b : Bs) (s : Int) (i : Nat) : Bs := b.put s (b.sp s) (b.sc s) ((b.sl s).eraseIdx i)
/-- what a change of one side's list may touch. -/
def sfp (b : Bs) (B : Nat) (s : Int) (j : Nat) : Prop := j = B ∨ OfP (b.sp s) j
theorem sublist_nodup_left {a b : LO} (h : ((a ++ b).map (·.1)).Nodup) : (a.map (·.1)).Nodup ∧ (b.map (·.1)).Nodup ∧ ∀ x ∈ a, ∀ y ∈ b, x.1 ≠ y.1 := by
  rw [List.map_append, List.nodup_append] at h
  exact ⟨h.1, h.2.1, fun x hx y hy => h.2.2 _ (List.mem_map.2 ⟨x, hx, rfl⟩) _ (List.mem_map.2 ⟨y, hy, rfl⟩)⟩
theorem Bm.snd {w : World} {B : Nat} {b : Bs} (h : Bm w B b) (s : Int) : ((b.sl s).map (·.1)).Nodup := by
  have := sublist_nodup_left h.nd
  unfold Bs.sl
  split
  · exact this.1
  · exact this.2.1
/-- a book one of whose lists is another one now. -/
theorem Bm.list {w w' : World} {B k : Nat} {b : Bs} {s : Int} {p : Option Addr} {c : Nat} {l : LO} (h : Bm w B b) (hs : s = (k : Int) + 1) (hk2 : k < 2)
    (hr : w'.heap[B]? = some (.cells (b.row.setIfInBounds (2 + k) (.slice p l.length c)) 60 (0, 0))) (hl : Li w' p c l) (hk : Kp (sfp b B s) w w')
    (hp : ∀ g, OfP p g → OfP (b.sp s) g ∨ w.heap.size ≤ g) (hm : ∀ x ∈ l, x ∈ b.sl s ∨ w.heap.size ≤ x.1) (hnd : (l.map (·.1)).Nodup) : Bm w' B (b.put s p c l) := by
  have nd := sublist_nodup_left h.nd
  have hkk : k = 0 ∨ k = 1 := by omega
  rcases hkk with rfl | rfl
  · obtain rfl : s = 1 := by omega
    have e : b.put 1 p c l = { b with p1 := p, c1 := c, l1 := l } := rfl
    rw [e]
    refine ⟨hr, hl, h.li2.kept hk (fun g hg => ?_) (fun x hx => ?_), ?_, fun g hg hg2 => ?_⟩
    · rintro (rfl | h1)
      · obtain ⟨c, e⟩ := h.li2.ty hg; exact row_ne h.row e (by decide) rfl
      · exact h.ap g h1 hg
    · rintro (h1 | h1)
      · exact row_ne (h.li2.at' x hx) h.row (by decide) h1
      · obtain ⟨c, e⟩ := h.li1.ty h1; exact row_ne (h.li2.at' x hx) e (by decide) rfl
    · show ((l ++ b.l2).map (·.1)).Nodup
      rw [List.map_append, List.nodup_append]
      refine ⟨hnd, nd.2.1, fun a ha y hy => ?_⟩
      obtain ⟨x, hx, rfl⟩ := List.mem_map.1 ha
      obtain ⟨z, hz, rfl⟩ := List.mem_map.1 hy
      rcases hm x hx with h1 | h1
      · exact nd.2.2 x h1 z hz
      · have := row_lt (h.li2.at' z hz); intro e; omega
    · rcases hp g hg with h1 | h1
      · exact h.ap g h1 hg2
      · obtain ⟨c, e⟩ := h.li2.ty hg2; have := row_lt e; omega
  · obtain rfl : s = 2 := by omega
    have e : b.put 2 p c l = { b with p2 := p, c2 := c, l2 := l } := rfl
    rw [e]
    refine ⟨hr, h.li1.kept hk (fun g hg => ?_) (fun x hx => ?_), hl, ?_, fun g hg hg2 => ?_⟩
    · rintro (rfl | h1)
      · obtain ⟨c, e⟩ := h.li1.ty hg; exact row_ne h.row e (by decide) rfl
      · exact h.ap g hg h1
    · rintro (h1 | h1)
      · exact row_ne (h.li1.at' x hx) h.row (by decide) h1
      · obtain ⟨c, e⟩ := h.li2.ty h1; exact row_ne (h.li1.at' x hx) e (by decide) rfl
    · show ((b.l1 ++ l).map (·.1)).Nodup
      rw [List.map_append, List.nodup_append]
      refine ⟨nd.1, hnd, fun a ha y hy => ?_⟩
      obtain ⟨x, hx, rfl⟩ := List.mem_map.1 ha
      obtain ⟨z, hz, rfl⟩ := List.mem_map.1 hy
      rcases hm z hz with h1 | h1
      · exact nd.2.2 x hx z h1
      · have := row_lt (h.li1.at' x hx); intro e; omega
    · rcases hp g hg2 with h1 | h1
      · exact h.ap g hg h1
      · obtain ⟨c, e⟩ := h.li1.ty hg; have := row_lt e; omega
theorem Bs.rowk {b : Bs} {s : Int} {k : Nat} (hs : s = (k : Int) + 1) (hk : k < 2) : b.row[2 + k]? = some (.slice (b.sp s) (b.sl s).length (b.sc s)) := by
  have hkk : k = 0 ∨ k = 1 := by omega
  rcases hkk with rfl | rfl
  · obtain rfl : s = 1 := by omega
    rfl
  · obtain rfl : s = 2 := by omega
    rfl
/-- what a turn may touch when one of its book's lists changes and it is told. -/
def cfp (b : Bs) (T B : Nat) (ve : Value) (s : Int) (j : Nat) : Prop := tfp T B ve j ∨ OfP (b.sp s) j
theorem Bs.sl_le (b : Bs) (s : Int) : (b.sl s).length ≤ b.l1.length + b.l2.length := by unfold Bs.sl; split <;> omega
theorem Bs.put_seq (b : Bs) (s : Int) (p : Option Addr) (c : Nat) (l : LO) : (b.put s p c l).seq = b.seq := by unfold Bs.put; split <;> rfl
theorem Bs.del_seq (b : Bs) (s : Int) (i : Nat) : (b.del s i).seq = b.seq := b.put_seq ..
end Go.Proofs.Ythdikkchblmebaa
