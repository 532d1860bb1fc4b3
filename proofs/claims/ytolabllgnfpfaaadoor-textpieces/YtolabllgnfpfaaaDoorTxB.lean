/-
  Tags in memory; text.Value, text.Number; the document's Value, Natural, Number.
-/
import Derived.Test.YtolabllgnfpfaaaDoorTxA
namespace Go.Proofs.YtolabllgnfpfaaaDoor
open Go.RowKit Go.Deep Go.Lib Go.Shelf Go.Sort
set_option linter.unusedVariables false

/-- a list of tags in memory. -/
def Ts (w : World) (q : Option Addr) (l : List (Int × List UInt8)) : Prop :=
  ∀ i (h : i < l.length), ∃ b o, q = some ⟨b, o, none⟩ ∧ w.cell? ⟨b, o + i * 2, none⟩ = some (.int .i64 (l[i]'h).1) ∧ w.cell? ⟨b, o + i * 2 + 1, none⟩ = some (.string ⟨(l[i]'h).2.toArray⟩)
theorem cell_lt {w : World} {a : Addr} {v : Value} (h : w.cell? a = some v) : a.block < w.heap.size := Lib.lt_of_cell h
theorem Ts.on {w w' : World} {q : Option Addr} {l : List (Int × List UInt8)} (h : Ts w q l) (hb : Below w.heap.size w w') : Ts w' q l := fun i hi => by
  obtain ⟨b, o, e, h0, h1⟩ := h i hi
  exact ⟨b, o, e, by rw [hb.cell (cell_lt h0)]; exact h0, by rw [hb.cell (cell_lt h1)]; exact h1⟩
theorem Ts.onB {w w' : World} {q : Option Addr} {l : List (Int × List UInt8)} {B : Nat} (h : Ts w q l) (hB : ∀ a, q = some a → a.block < B) (hb : Below B w w') : Ts w' q l := fun i hi => by
  obtain ⟨b, o, e, h0, h1⟩ := h i hi
  have := hB _ e
  exact ⟨b, o, e, by rw [hb.cell (by exact this)]; exact h0, by rw [hb.cell (by exact this)]; exact h1⟩
def val? (l : List (Int × List UInt8)) (tag : Int) : Option (List UInt8) := (l.find? (fun p => p.1 == tag)).map (·.2)
theorem val_none {l : List (Int × List UInt8)} {tag : Int} (h : ∀ x ∈ l, x.1 ≠ tag) : val? l tag = none := by
  unfold val?
  rw [List.find?_eq_none.2 (fun x hx => by simpa using h x hx)]
  rfl
theorem val_at {l : List (Int × List UInt8)} {tag : Int} (k : Nat) (hk : k < l.length) (h : ∀ x ∈ l.take k, x.1 ≠ tag) (he : (l[k]).1 = tag) : val? l tag = some (l[k]).2 := by
  unfold val?
  conv => lhs; rw [← List.take_append_drop k l]
  rw [List.find?_append, List.find?_eq_none.2 (fun x hx => by simpa using h x hx), List.drop_eq_getElem_cons hk, List.find?_cons_of_pos (by simpa using he)]
  rfl

set_option maxHeartbeats 2000000 in
set_option maxRecDepth 100000 in
/-- text.Value. -/
theorem value_any (l : List (Int × List UInt8)) (q : Option Addr) (cap : Nat) (tag : Int) (w : World) (hl : l.length < 9223372036854775808) (hT : Ts w q l) :
    Calls Tryd.prog 40 #[.slice q l.length cap, .int .i64 tag] w fun e w' => e = .returned (.tuple #[.string ⟨((val? l tag).getD []).toArray⟩, .bool (val? l tag).isSome]) ∧ Below w.heap.size w w' := by
  have HT := hid hT
  clear hT
  go_enter Tryd.func40, Tryd.ntmps40
  go_wp2_with fail
  go_loopw [10] (fun iv wr => ∃ k : Nat, k ≤ l.length ∧ iv = .int .i64 k ∧ Hid (Below w.heap.size w wr) ∧ Hid (∀ x ∈ l.take k, x.1 ≠ tag)) (fun iv _ => l.length - (RowKit.intOf iv).toNat)
  case atStart => exact ⟨0, Nat.zero_le _, rfl, Below.refl _ _, fun x hx => by simp at hx⟩
  case round =>
    obtain ⟨k, hk, rfl, HB, HN⟩ := hrel
    by_cases hlt : k < l.length
    · obtain ⟨b, o, rfl, h0, h1⟩ := (HT.out.on HB.out) k hlt
      have hbb := cell_lt h0
      have i0 : (0 : Int) ≤ (k : Int) := by omega
      have i1 : (k : Int) < (l.length : Int) := by omega
      obtain ⟨z, s, hz⟩ : ∃ z s, l[k] = (z, s) := ⟨_, _, rfl⟩
      rw [hz] at h0 h1
      simp only at h0 h1 hbb
      have HS := hid (HB.out.size)
      by_cases ht : z = tag
      · have HV := hid (val_at k hlt HN.out (by rw [hz]; exact ht))
        rw [hz] at HV
        clear hz
        subst ht
        go_wp2
        go_ret2
        refine ⟨by rw [HV.out]; simp, ?_⟩
        repeat (first | exact HB.out | apply Below.setCell | apply Below.alloc)
        all_goals (have := HS.out; simp; try omega)
      · have HN2 := hid (show ∀ x ∈ l.take (k + 1), x.1 ≠ tag by
          rw [List.take_succ_eq_append_getElem hlt, hz]
          intro x hx
          rcases List.mem_append.1 hx with hx | hx
          · exact HN.out x hx
          · obtain rfl := List.mem_singleton.1 hx; exact ht)
        clear hz
        go_wp2
        go_roundw
        case rel => 
          refine ⟨k + 1, by omega, by go_num, ?_, HN2⟩
          refine hid ?_
          repeat (first | exact HB.out | apply Below.setCell | apply Below.alloc)
          all_goals (have := HS.out; simp; try omega)
        case measure => simp [RowKit.intOf]; omega
    · have HV := hid (val_none (by have := HN.out; rwa [List.take_of_length_le (by omega)] at this))
      go_wp2
      go_ret2
      exact ⟨by rw [HV.out]; simp, HB.out⟩

def numEnd : Option Nat → Nat × Int
  | none => (0, 31)
  | some n => (n, 0)
/-- what Number tells. -/
def numOf (l : List (Int × List UInt8)) (tag : Int) : Nat × Int :=
  match val? l tag with
  | none => (0, 30)
  | some v => numEnd (num v)
theorem val_mem {l : List (Int × List UInt8)} {tag : Int} {v : List UInt8} (h : val? l tag = some v) : ∃ x ∈ l, x.2 = v := by
  unfold val? at h
  cases hf : l.find? (fun p => p.1 == tag) with
  | none => rw [hf] at h; simp at h
  | some x => rw [hf] at h; exact ⟨x, List.mem_of_find?_eq_some hf, by simpa using h⟩

end Go.Proofs.YtolabllgnfpfaaaDoor
