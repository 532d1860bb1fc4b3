/-
  Kinds, values, tags: plain, and the program's and the document's tests of them.
-/
import Derived.Test.YtolabllgnfpfaaaDoorTxE
import Derived.Test.YtolabllgnfpfaaaDoorTxF
namespace Go.Proofs.YtolabllgnfpfaaaDoor
open Go.RowKit Go.Deep Go.Lib Go.Shelf Go.Sort
set_option linter.unusedVariables false

def Up (c : UInt8) : Prop := 65 ≤ c.toNat ∧ c.toNat ≤ 90
def Lo (c : UInt8) : Prop := 97 ≤ c.toNat ∧ c.toNat ≤ 122
def Pr (c : UInt8) : Prop := 32 ≤ c.toNat ∧ c.toNat ≤ 126
def Al (c : UInt8) : Prop := Dig c ∨ Up c ∨ Lo c
instance (c : UInt8) : Decidable (Al c) := by unfold Al Up Lo; exact inferInstance
instance (c : UInt8) : Decidable (Pr c) := by unfold Pr; exact inferInstance
def KindOk (k : List UInt8) : Prop := (k.length = 1 ∨ k.length = 2) ∧ ∀ c ∈ k, Al c
instance (k : List UInt8) : Decidable (KindOk k) := by unfold KindOk; exact inferInstance
def ValOk (v : List UInt8) : Prop := v ≠ [] ∧ ∀ c ∈ v, Pr c
instance (k : List UInt8) : Decidable (ValOk k) := by unfold ValOk; exact inferInstance
def TagOk (t : Int) : Prop := 1 ≤ t ∧ t ≤ 9999 ∧ t ≠ 8 ∧ t ≠ 9 ∧ t ≠ 10 ∧ t ≠ 35
instance (t : Int) : Decidable (TagOk t) := by unfold TagOk; exact inferInstance
/-- whether a field may stand behind others. -/
def fitsE (ahead : List (Int × List UInt8)) (x : Int × List UInt8) : Int :=
  if ¬ TagOk x.1 then 30 else if (val? ahead x.1).isSome then 30 else if ¬ ValOk x.2 then 31 else 0

set_option maxHeartbeats 1000000 in
theorem isdigit_any (c : UInt8) (w : World) :
    Calls Tryd.prog 39 #[.int .u8 c.toNat] w fun e w' => e = .returned (.bool (decide (Dig c))) ∧ w' = w := by
  have hc := c.toNat_lt
  by_cases h1 : 48 ≤ c.toNat
  · have h1' : (48 : Int) ≤ (c.toNat : Int) := by omega
    have e : decide (Dig c) = decide ((c.toNat : Int) ≤ 57) := decide_eq_decide.2 ⟨fun h => by have := h.2; omega, fun h => ⟨h1, by omega⟩⟩
    rw [e]
    clear e
    go_enter Tryd.func39, Tryd.ntmps39
    go_wp2
    go_ret
    exact ⟨rfl, rfl⟩
  · have h1' : ¬ ((48 : Int) ≤ (c.toNat : Int)) := by omega
    have e : decide (Dig c) = false := decide_eq_false (fun h => h1 h.1)
    rw [e]
    clear e
    go_enter Tryd.func39, Tryd.ntmps39
    go_wp2
    go_ret
    exact ⟨rfl, rfl⟩

theorem take_all {p : UInt8 → Prop} {l : List UInt8} {k : Nat} (hk : k < l.length) (h : ∀ c ∈ l.take k, p c) (hc : p l[k]) : ∀ c ∈ l.take (k + 1), p c := by
  rw [List.take_succ_eq_append_getElem hk]
  intro x hx
  rcases List.mem_append.1 hx with hx | hx
  · exact h x hx
  · obtain rfl := List.mem_singleton.1 hx; exact hc

set_option maxHeartbeats 4000000 in
set_option maxRecDepth 100000 in
/-- text.isKind. -/
theorem iskind_any (l : List UInt8) (w : World) (hl : l.length < 9223372036854775808) :
    Calls Tryd.prog 23 #[.string ⟨l.toArray⟩] w fun e w' => e = .returned (.bool (decide (KindOk l))) ∧ w' = w := by
  by_cases h12 : l.length = 1 ∨ l.length = 2
  · rcases h12 with hlen | hlen
    · have h12 : l.length = 1 ∨ l.length = 2 := Or.inl hlen
      have H12 := hid h12
      clear h12
      go_enter Tryd.func23, Tryd.ntmps23
      go_wp2_with fail
      go_loopw [15] (fun iv wr => ∃ k : Nat, k ≤ l.length ∧ iv = .int .i64 k ∧ wr = w ∧ Hid (∀ c ∈ l.take k, Al c)) (fun iv _ => l.length - (RowKit.intOf iv).toNat)
      case atStart => exact ⟨0, Nat.zero_le _, rfl, rfl, fun x hx => by simp at hx⟩
      case round =>
        obtain ⟨k, hk, rfl, rfl, HN⟩ := hrel
        by_cases hlt : k < l.length
        · obtain ⟨c, hc⟩ : ∃ c, l[k] = c := ⟨_, rfl⟩
          have hx : ∀ h : k < (⟨l.toArray⟩ : ByteArray).size, (⟨l.toArray⟩ : ByteArray)[k] = c := fun h => by rw [ba_at l k hlt h, hc]
          have i0 : (0 : Int) ≤ (k : Int) := by omega
          have i1 : (k : Int) < (l.length : Int) := by omega
          have hc256 : c.toNat < 256 := c.toNat_lt
          have ID := hid (isdigit_any c)
          have HC := hid hc
          clear hc
          by_cases hd : Dig c
          · have e : decide (Dig c) = true := decide_eq_true hd
            rw [e] at ID
            have HN2 := hid (take_all hlt HN.out (by rw [HC.out]; exact Or.inl hd))
            clear e hd
            go_wp2_with (go_at_call 39; refine (ID.out _).mono ?_; rintro e w1 ⟨rfl, rfl⟩)
            go_roundw
            case rel => exact ⟨k + 1, by omega, by go_num, trivial, HN2⟩
            case measure => simp [RowKit.intOf]; omega
          · have e : decide (Dig c) = false := decide_eq_false hd
            rw [e] at ID
            clear e
            by_cases hu : Up c
            · have HN2 := hid (take_all hlt HN.out (by rw [HC.out]; exact Or.inr (Or.inl hu)))
              unfold Up at hu
              have u1 : (65 : Int) ≤ (c.toNat : Int) := by omega
              have u2 : (c.toNat : Int) ≤ 90 := by omega
              clear hu hd
              go_wp2_with (go_at_call 39; refine (ID.out _).mono ?_; rintro e w1 ⟨rfl, rfl⟩)
              go_roundw
              case rel => exact ⟨k + 1, by omega, by go_num, trivial, HN2⟩
              case measure => simp [RowKit.intOf]; omega
            · by_cases ho : Lo c
              · have HN2 := hid (take_all hlt HN.out (by rw [HC.out]; exact Or.inr (Or.inr ho)))
                unfold Lo at ho
                have u1 : (65 : Int) ≤ (c.toNat : Int) := by omega
                have u2 : ¬ ((c.toNat : Int) ≤ 90) := by omega
                have u3 : (97 : Int) ≤ (c.toNat : Int) := by omega
                have u4 : (c.toNat : Int) ≤ 122 := by omega
                clear hu hd ho
                go_wp2_with (go_at_call 39; refine (ID.out _).mono ?_; rintro e w1 ⟨rfl, rfl⟩)
                go_roundw
                case rel => exact ⟨k + 1, by omega, by go_num, trivial, HN2⟩
                case measure => simp [RowKit.intOf]; omega
              · have HF := hid (show decide (KindOk l) = false by
                  refine decide_eq_false (fun h => ?_)
                  have := h.2 c (by rw [← HC.out]; exact List.getElem_mem hlt)
                  rcases this with h | h | h
                  · exact hd h
                  · exact hu h
                  · exact ho h)
                unfold Up at hu
                unfold Lo at ho
                have v1 : ¬ ((65 : Int) ≤ (c.toNat : Int) ∧ (c.toNat : Int) ≤ 90) := by omega
                have v2 : ¬ ((97 : Int) ≤ (c.toNat : Int) ∧ (c.toNat : Int) ≤ 122) := by omega
                clear hu hd ho
                by_cases w1 : (65 : Int) ≤ (c.toNat : Int)
                · have w2 : ¬ ((c.toNat : Int) ≤ 90) := fun h => v1 ⟨w1, h⟩
                  by_cases w3 : (97 : Int) ≤ (c.toNat : Int)
                  · have w4 : ¬ ((c.toNat : Int) ≤ 122) := fun h => v2 ⟨w3, h⟩
                    clear v1 v2
                    go_wp2_with (go_at_call 39; refine (ID.out _).mono ?_; rintro e w1 ⟨rfl, rfl⟩)
                    go_ret
                    exact ⟨by rw [HF.out]; rfl, rfl⟩
                  · clear v1 v2
                    go_wp2_with (go_at_call 39; refine (ID.out _).mono ?_; rintro e w1 ⟨rfl, rfl⟩)
                    go_ret
                    exact ⟨by rw [HF.out]; rfl, rfl⟩
                · have w3 : ¬ ((97 : Int) ≤ (c.toNat : Int)) := by omega
                  clear v1 v2
                  go_wp2_with (go_at_call 39; refine (ID.out _).mono ?_; rintro e w1 ⟨rfl, rfl⟩)
                  go_ret
                  exact ⟨by rw [HF.out]; rfl, rfl⟩
        · have HF := hid (show decide (KindOk l) = true by
            have := HN.out
            rw [List.take_of_length_le (by omega)] at this
            exact decide_eq_true ⟨H12.out, this⟩)
          go_wp2
          go_ret
          exact ⟨by rw [HF.out]; rfl, rfl⟩
    · have h12 : l.length = 1 ∨ l.length = 2 := Or.inr hlen
      have H12 := hid h12
      clear h12
      go_enter Tryd.func23, Tryd.ntmps23
      go_wp2_with fail
      go_loopw [15] (fun iv wr => ∃ k : Nat, k ≤ l.length ∧ iv = .int .i64 k ∧ wr = w ∧ Hid (∀ c ∈ l.take k, Al c)) (fun iv _ => l.length - (RowKit.intOf iv).toNat)
      case atStart => exact ⟨0, Nat.zero_le _, rfl, rfl, fun x hx => by simp at hx⟩
      case round =>
        obtain ⟨k, hk, rfl, rfl, HN⟩ := hrel
        by_cases hlt : k < l.length
        · obtain ⟨c, hc⟩ : ∃ c, l[k] = c := ⟨_, rfl⟩
          have hx : ∀ h : k < (⟨l.toArray⟩ : ByteArray).size, (⟨l.toArray⟩ : ByteArray)[k] = c := fun h => by rw [ba_at l k hlt h, hc]
          have i0 : (0 : Int) ≤ (k : Int) := by omega
          have i1 : (k : Int) < (l.length : Int) := by omega
          have hc256 : c.toNat < 256 := c.toNat_lt
          have ID := hid (isdigit_any c)
          have HC := hid hc
          clear hc
          by_cases hd : Dig c
          · have e : decide (Dig c) = true := decide_eq_true hd
            rw [e] at ID
            have HN2 := hid (take_all hlt HN.out (by rw [HC.out]; exact Or.inl hd))
            clear e hd
            go_wp2_with (go_at_call 39; refine (ID.out _).mono ?_; rintro e w1 ⟨rfl, rfl⟩)
            go_roundw
            case rel => exact ⟨k + 1, by omega, by go_num, trivial, HN2⟩
            case measure => simp [RowKit.intOf]; omega
          · have e : decide (Dig c) = false := decide_eq_false hd
            rw [e] at ID
            clear e
            by_cases hu : Up c
            · have HN2 := hid (take_all hlt HN.out (by rw [HC.out]; exact Or.inr (Or.inl hu)))
              unfold Up at hu
              have u1 : (65 : Int) ≤ (c.toNat : Int) := by omega
              have u2 : (c.toNat : Int) ≤ 90 := by omega
              clear hu hd
              go_wp2_with (go_at_call 39; refine (ID.out _).mono ?_; rintro e w1 ⟨rfl, rfl⟩)
              go_roundw
              case rel => exact ⟨k + 1, by omega, by go_num, trivial, HN2⟩
              case measure => simp [RowKit.intOf]; omega
            · by_cases ho : Lo c
              · have HN2 := hid (take_all hlt HN.out (by rw [HC.out]; exact Or.inr (Or.inr ho)))
                unfold Lo at ho
                have u1 : (65 : Int) ≤ (c.toNat : Int) := by omega
                have u2 : ¬ ((c.toNat : Int) ≤ 90) := by omega
                have u3 : (97 : Int) ≤ (c.toNat : Int) := by omega
                have u4 : (c.toNat : Int) ≤ 122 := by omega
                clear hu hd ho
                go_wp2_with (go_at_call 39; refine (ID.out _).mono ?_; rintro e w1 ⟨rfl, rfl⟩)
                go_roundw
                case rel => exact ⟨k + 1, by omega, by go_num, trivial, HN2⟩
                case measure => simp [RowKit.intOf]; omega
              · have HF := hid (show decide (KindOk l) = false by
                  refine decide_eq_false (fun h => ?_)
                  have := h.2 c (by rw [← HC.out]; exact List.getElem_mem hlt)
                  rcases this with h | h | h
                  · exact hd h
                  · exact hu h
                  · exact ho h)
                unfold Up at hu
                unfold Lo at ho
                have v1 : ¬ ((65 : Int) ≤ (c.toNat : Int) ∧ (c.toNat : Int) ≤ 90) := by omega
                have v2 : ¬ ((97 : Int) ≤ (c.toNat : Int) ∧ (c.toNat : Int) ≤ 122) := by omega
                clear hu hd ho
                by_cases w1 : (65 : Int) ≤ (c.toNat : Int)
                · have w2 : ¬ ((c.toNat : Int) ≤ 90) := fun h => v1 ⟨w1, h⟩
                  by_cases w3 : (97 : Int) ≤ (c.toNat : Int)
                  · have w4 : ¬ ((c.toNat : Int) ≤ 122) := fun h => v2 ⟨w3, h⟩
                    clear v1 v2
                    go_wp2_with (go_at_call 39; refine (ID.out _).mono ?_; rintro e w1 ⟨rfl, rfl⟩)
                    go_ret
                    exact ⟨by rw [HF.out]; rfl, rfl⟩
                  · clear v1 v2
                    go_wp2_with (go_at_call 39; refine (ID.out _).mono ?_; rintro e w1 ⟨rfl, rfl⟩)
                    go_ret
                    exact ⟨by rw [HF.out]; rfl, rfl⟩
                · have w3 : ¬ ((97 : Int) ≤ (c.toNat : Int)) := by omega
                  clear v1 v2
                  go_wp2_with (go_at_call 39; refine (ID.out _).mono ?_; rintro e w1 ⟨rfl, rfl⟩)
                  go_ret
                  exact ⟨by rw [HF.out]; rfl, rfl⟩
        · have HF := hid (show decide (KindOk l) = true by
            have := HN.out
            rw [List.take_of_length_le (by omega)] at this
            exact decide_eq_true ⟨H12.out, this⟩)
          go_wp2
          go_ret
          exact ⟨by rw [HF.out]; rfl, rfl⟩
  · have e : decide (KindOk l) = false := decide_eq_false (fun h => h12 h.1)
    rw [e]
    have f1 : ((l.length : Int) != 1) = true := by simp; omega
    have f2 : ((l.length : Int) != 2) = true := by simp; omega
    clear e
    go_enter Tryd.func23, Tryd.ntmps23
    go_wp2
    go_ret
    exact ⟨rfl, rfl⟩
end Go.Proofs.YtolabllgnfpfaaaDoor
