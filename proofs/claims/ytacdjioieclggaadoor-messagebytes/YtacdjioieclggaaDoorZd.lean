/-
  Contracts and plain facts, part 4.
-/
import Derived.Test.YtacdjioieclggaaDoorZc
namespace Go.Proofs.YtacdjioieclggaaDoor
open Go.RowKit Go.Deep Go.Lib Go.Shelf Go.Sort
set_option linter.unusedVariables false
def Up (c : UInt8) : Prop := 65 ≤ c.toNat ∧ c.toNat ≤ 90
def Lo (c : UInt8) : Prop := 97 ≤ c.toNat ∧ c.toNat ≤ 122
def Pr (c : UInt8) : Prop := 32 ≤ c.toNat ∧ c.toNat ≤ 126
def Al (c : UInt8) : Prop := Dig c ∨ Up c ∨ Lo c
instance (c : UInt8) : Decidable (Al c) := by unfold Al Up Lo; exact inferInstance
instance (c : UInt8) : Decidable (Pr c) := by unfold Pr; exact inferInstance
def KindOk (k : List UInt8) : Prop := (k.length = 1 ∨ k.length = 2) ∧ ∀ c ∈ k, Al c
instance (k : List UInt8) : Decidable (KindOk k) := by unfold KindOk; exact inferInstance
def ValOk (v : List UInt8) : Prop := v ≠ [] ∧ ∀ c ∈ v, Pr c
instance (k : List UInt8) : Decidable (ValOk k) := by unfold ValOk; exact inferInstance
def TagOk (t : Int) : Prop := 1 ≤ t ∧ t ≤ 9999 ∧ t ≠ 8 ∧ t ≠ 9 ∧ t ≠ 10 ∧ t ≠ 35
instance (t : Int) : Decidable (TagOk t) := by unfold TagOk; exact inferInstance
/-- whether a field may stand behind others. -/
def fitsE (ahead : List (Int × List UInt8)) (x : Int × List UInt8) : Int :=
  if ¬ TagOk x.1 then 30 else if (val? ahead x.1).isSome then 30 else if ¬ ValOk x.2 then 31 else 0

set_option maxHeartbeats 1000000 in
theorem isdigit_any (c : UInt8) (w : World) :
    Calls Tryd.prog 87 #[.int .u8 c.toNat] w fun e w' => e = .returned (.bool (decide (Dig c))) ∧ w' = w := by
  have hc := c.toNat_lt
  by_cases h1 : 48 ≤ c.toNat
  · have h1' : (48 : Int) ≤ (c.toNat : Int) := by omega
    have e : decide (Dig c) = decide ((c.toNat : Int) ≤ 57) := decide_eq_decide.2 ⟨fun h => by have := h.2; omega, fun h => ⟨h1, by omega⟩⟩
    rw [e]
    clear e
    go_enter Tryd.func87, Tryd.ntmps87
    go_wp2
    go_ret
    exact ⟨rfl, rfl⟩
  · have h1' : ¬ ((48 : Int) ≤ (c.toNat : Int)) := by omega
    have e : decide (Dig c) = false := decide_eq_false (fun h => h1 h.1)
    rw [e]
    clear e
    go_enter Tryd.func87, Tryd.ntmps87
    go_wp2
    go_ret
    exact ⟨rfl, rfl⟩

theorem take_all {p : UInt8 → Prop} {l : List UInt8} {k : Nat} (hk : k < l.length) (h : ∀ c ∈ l.take k, p c) (hc : p l[k]) : ∀ c ∈ l.take (k + 1), p c := by
  rw [List.take_succ_eq_append_getElem hk]
  intro x hx
  rcases List.mem_append.1 hx with hx | hx
  · exact h x hx
  · obtain rfl := List.mem_singleton.1 hx; exact hc

set_option maxHeartbeats 4000000 in
set_option maxRecDepth 100000 in
/-- text.isKind. -/
theorem iskind_any (l : List UInt8) (w : World) (hl : l.length < 9223372036854775808) :
    Calls Tryd.prog 74 #[.string ⟨l.toArray⟩] w fun e w' => e = .returned (.bool (decide (KindOk l))) ∧ w' = w := by
  by_cases h12 : l.length = 1 ∨ l.length = 2
  · rcases h12 with hlen | hlen
    · have h12 : l.length = 1 ∨ l.length = 2 := Or.inl hlen
      have H12 := hid h12
      clear h12
      go_enter Tryd.func74, Tryd.ntmps74
      go_wp2_with fail
      go_loopw [15] (fun iv wr => ∃ k : Nat, k ≤ l.length ∧ iv = .int .i64 k ∧ wr = w ∧ Hid (∀ c ∈ l.take k, Al c)) (fun iv _ => l.length - (RowKit.intOf iv).toNat)
      case atStart => exact ⟨0, Nat.zero_le _, rfl, rfl, fun x hx => by simp at hx⟩
      case round =>
        obtain ⟨k, hk, rfl, rfl, HN⟩ := hrel
        by_cases hlt : k < l.length
        · obtain ⟨c, hc⟩ : ∃ c, l[k] = c := ⟨_, rfl⟩
          have hx : ∀ h : k < (⟨l.toArray⟩ : ByteArray).size, (⟨l.toArray⟩ : ByteArray)[k] = c := fun h => by rw [ba_at l k hlt h, hc]
          have i0 : (0 : Int) ≤ (k : Int) := by omega
          have i1 : (k : Int) < (l.length : Int) := by omega
          have hc256 : c.toNat < 256 := c.toNat_lt
          have ID := hid (isdigit_any c)
          have HC := hid hc
          clear hc
          by_cases hd : Dig c
          · have e : decide (Dig c) = true := decide_eq_true hd
            rw [e] at ID
            have HN2 := hid (take_all hlt HN.out (by rw [HC.out]; exact Or.inl hd))
            clear e hd
            go_wp2_with (go_at_call 87; refine (ID.out _).mono ?_; rintro e w1 ⟨rfl, rfl⟩)
            go_roundw
            case rel => exact ⟨k + 1, by omega, by go_num, trivial, HN2⟩
            case measure => simp [RowKit.intOf]; omega
          · have e : decide (Dig c) = false := decide_eq_false hd
            rw [e] at ID
            clear e
            by_cases hu : Up c
            · have HN2 := hid (take_all hlt HN.out (by rw [HC.out]; exact Or.inr (Or.inl hu)))
              unfold Up at hu
              have u1 : (65 : Int) ≤ (c.toNat : Int) := by omega
              have u2 : (c.toNat : Int) ≤ 90 := by omega
              clear hu hd
              go_wp2_with (go_at_call 87; refine (ID.out _).mono ?_; rintro e w1 ⟨rfl, rfl⟩)
              go_roundw
              case rel => exact ⟨k + 1, by omega, by go_num, trivial, HN2⟩
              case measure => simp [RowKit.intOf]; omega
            · by_cases ho : Lo c
              · have HN2 := hid (take_all hlt HN.out (by rw [HC.out]; exact Or.inr (Or.inr ho)))
                unfold Lo at ho
                have u1 : (65 : Int) ≤ (c.toNat : Int) := by omega
                have u2 : ¬ ((c.toNat : Int) ≤ 90) := by omega
                have u3 : (97 : Int) ≤ (c.toNat : Int) := by omega
                have u4 : (c.toNat : Int) ≤ 122 := by omega
                clear hu hd ho
                go_wp2_with (go_at_call 87; refine (ID.out _).mono ?_; rintro e w1 ⟨rfl, rfl⟩)
                go_roundw
                case rel => exact ⟨k + 1, by omega, by go_num, trivial, HN2⟩
                case measure => simp [RowKit.intOf]; omega
              · have HF := hid (show decide (KindOk l) = false by
                  refine decide_eq_false (fun h => ?_)
                  have := h.2 c (by rw [← HC.out]; exact List.getElem_mem hlt)
                  rcases this with h | h | h
                  · exact hd h
                  · exact hu h
                  · exact ho h)
                unfold Up at hu
                unfold Lo at ho
                have v1 : ¬ ((65 : Int) ≤ (c.toNat : Int) ∧ (c.toNat : Int) ≤ 90) := by omega
                have v2 : ¬ ((97 : Int) ≤ (c.toNat : Int) ∧ (c.toNat : Int) ≤ 122) := by omega
                clear hu hd ho
                by_cases w1 : (65 : Int) ≤ (c.toNat : Int)
                · have w2 : ¬ ((c.toNat : Int) ≤ 90) := fun h => v1 ⟨w1, h⟩
                  by_cases w3 : (97 : Int) ≤ (c.toNat : Int)
                  · have w4 : ¬ ((c.toNat : Int) ≤ 122) := fun h => v2 ⟨w3, h⟩
                    clear v1 v2
                    go_wp2_with (go_at_call 87; refine (ID.out _).mono ?_; rintro e w1 ⟨rfl, rfl⟩)
                    go_ret
                    exact ⟨by rw [HF.out]; rfl, rfl⟩
                  · clear v1 v2
                    go_wp2_with (go_at_call 87; refine (ID.out _).mono ?_; rintro e w1 ⟨rfl, rfl⟩)
                    go_ret
                    exact ⟨by rw [HF.out]; rfl, rfl⟩
                · have w3 : ¬ ((97 : Int) ≤ (c.toNat : Int)) := by omega
                  clear v1 v2
                  go_wp2_with (go_at_call 87; refine (ID.out _).mono ?_; rintro e w1 ⟨rfl, rfl⟩)
                  go_ret
                  exact ⟨by rw [HF.out]; rfl, rfl⟩
        · have HF := hid (show decide (KindOk l) = true by
            have := HN.out
            rw [List.take_of_length_le (by omega)] at this
            exact decide_eq_true ⟨H12.out, this⟩)
          go_wp2
          go_ret
          exact ⟨by rw [HF.out]; rfl, rfl⟩
    · have h12 : l.length = 1 ∨ l.length = 2 := Or.inr hlen
      have H12 := hid h12
      clear h12
      go_enter Tryd.func74, Tryd.ntmps74
      go_wp2_with fail
      go_loopw [15] (fun iv wr => ∃ k : Nat, k ≤ l.length ∧ iv = .int .i64 k ∧ wr = w ∧ Hid (∀ c ∈ l.take k, Al c)) (fun iv _ => l.length - (RowKit.intOf iv).toNat)
      case atStart => exact ⟨0, Nat.zero_le _, rfl, rfl, fun x hx => by simp at hx⟩
      case round =>
        obtain ⟨k, hk, rfl, rfl, HN⟩ := hrel
        by_cases hlt : k < l.length
        · obtain ⟨c, hc⟩ : ∃ c, l[k] = c := ⟨_, rfl⟩
          have hx : ∀ h : k < (⟨l.toArray⟩ : ByteArray).size, (⟨l.toArray⟩ : ByteArray)[k] = c := fun h => by rw [ba_at l k hlt h, hc]
          have i0 : (0 : Int) ≤ (k : Int) := by omega
          have i1 : (k : Int) < (l.length : Int) := by omega
          have hc256 : c.toNat < 256 := c.toNat_lt
          have ID := hid (isdigit_any c)
          have HC := hid hc
          clear hc
          by_cases hd : Dig c
          · have e : decide (Dig c) = true := decide_eq_true hd
            rw [e] at ID
            have HN2 := hid (take_all hlt HN.out (by rw [HC.out]; exact Or.inl hd))
            clear e hd
            go_wp2_with (go_at_call 87; refine (ID.out _).mono ?_; rintro e w1 ⟨rfl, rfl⟩)
            go_roundw
            case rel => exact ⟨k + 1, by omega, by go_num, trivial, HN2⟩
            case measure => simp [RowKit.intOf]; omega
          · have e : decide (Dig c) = false := decide_eq_false hd
            rw [e] at ID
            clear e
            by_cases hu : Up c
            · have HN2 := hid (take_all hlt HN.out (by rw [HC.out]; exact Or.inr (Or.inl hu)))
              unfold Up at hu
              have u1 : (65 : Int) ≤ (c.toNat : Int) := by omega
              have u2 : (c.toNat : Int) ≤ 90 := by omega
              clear hu hd
              go_wp2_with (go_at_call 87; refine (ID.out _).mono ?_; rintro e w1 ⟨rfl, rfl⟩)
              go_roundw
              case rel => exact ⟨k + 1, by omega, by go_num, trivial, HN2⟩
              case measure => simp [RowKit.intOf]; omega
            · by_cases ho : Lo c
              · have HN2 := hid (take_all hlt HN.out (by rw [HC.out]; exact Or.inr (Or.inr ho)))
                unfold Lo at ho
                have u1 : (65 : Int) ≤ (c.toNat : Int) := by omega
                have u2 : ¬ ((c.toNat : Int) ≤ 90) := by omega
                have u3 : (97 : Int) ≤ (c.toNat : Int) := by omega
                have u4 : (c.toNat : Int) ≤ 122 := by omega
                clear hu hd ho
                go_wp2_with (go_at_call 87; refine (ID.out _).mono ?_; rintro e w1 ⟨rfl, rfl⟩)
                go_roundw
                case rel => exact ⟨k + 1, by omega, by go_num, trivial, HN2⟩
                case measure => simp [RowKit.intOf]; omega
              · have HF := hid (show decide (KindOk l) = false by
                  refine decide_eq_false (fun h => ?_)
                  have := h.2 c (by rw [← HC.out]; exact List.getElem_mem hlt)
                  rcases this with h | h | h
                  · exact hd h
                  · exact hu h
                  · exact ho h)
                unfold Up at hu
                unfold Lo at ho
                have v1 : ¬ ((65 : Int) ≤ (c.toNat : Int) ∧ (c.toNat : Int) ≤ 90) := by omega
                have v2 : ¬ ((97 : Int) ≤ (c.toNat : Int) ∧ (c.toNat : Int) ≤ 122) := by omega
                clear hu hd ho
                by_cases w1 : (65 : Int) ≤ (c.toNat : Int)
                · have w2 : ¬ ((c.toNat : Int) ≤ 90) := fun h => v1 ⟨w1, h⟩
                  by_cases w3 : (97 : Int) ≤ (c.toNat : Int)
                  · have w4 : ¬ ((c.toNat : Int) ≤ 122) := fun h => v2 ⟨w3, h⟩
                    clear v1 v2
                    go_wp2_with (go_at_call 87; refine (ID.out _).mono ?_; rintro e w1 ⟨rfl, rfl⟩)
                    go_ret
                    exact ⟨by rw [HF.out]; rfl, rfl⟩
                  · clear v1 v2
                    go_wp2_with (go_at_call 87; refine (ID.out _).mono ?_; rintro e w1 ⟨rfl, rfl⟩)
                    go_ret
                    exact ⟨by rw [HF.out]; rfl, rfl⟩
                · have w3 : ¬ ((97 : Int) ≤ (c.toNat : Int)) := by omega
                  clear v1 v2
                  go_wp2_with (go_at_call 87; refine (ID.out _).mono ?_; rintro e w1 ⟨rfl, rfl⟩)
                  go_ret
                  exact ⟨by rw [HF.out]; rfl, rfl⟩
        · have HF := hid (show decide (KindOk l) = true by
            have := HN.out
            rw [List.take_of_length_le (by omega)] at this
            exact decide_eq_true ⟨H12.out, this⟩)
          go_wp2
          go_ret
          exact ⟨by rw [HF.out]; rfl, rfl⟩
  · have e : decide (KindOk l) = false := decide_eq_false (fun h => h12 h.1)
    rw [e]
    have f1 : ((l.length : Int) != 1) = true := by simp; omega
    have f2 : ((l.length : Int) != 2) = true := by simp; omega
    clear e
    go_enter Tryd.func74, Tryd.ntmps74
    go_wp2
    go_ret
    exact ⟨rfl, rfl⟩
end Go.Proofs.YtacdjioieclggaaDoor
namespace Go.Proofs.YtacdjioieclggaaDoor
open Go.RowKit Go.Deep Go.Lib Go.Shelf Go.Sort
set_option linter.unusedVariables false
theorem btr {B : Nat} {a b c : World} (h : Below B a b) (hB : B ≤ b.heap.size) (k : Below b.heap.size b c) : Below B a c := h.trans (k.mono hB)
theorem btr' {a b c : World} (h : Below a.heap.size a b) (k : Below b.heap.size b c) : Below a.heap.size a c := btr h h.size k
theorem ball (w : World) (o : Obj) : Below w.heap.size w (w.alloc o) := (Below.refl _ _).alloc (Nat.le_refl _) _

end Go.Proofs.YtacdjioieclggaaDoor
namespace Go.Proofs.YtacdjioieclggaaDoor
open Go.RowKit Go.Deep Go.Lib Go.Shelf Go.Sort
set_option linter.unusedVariables false
set_option maxHeartbeats 4000000 in
set_option maxRecDepth 100000 in
/-- text.isValue. -/
theorem isvalue_any (l : List UInt8) (w : World) (hl : l.length < 9223372036854775808) :
    Calls Tryd.prog 88 #[.string ⟨l.toArray⟩] w fun e w' => e = .returned (.bool (decide (ValOk l))) ∧ w' = w := by
  go_enter Tryd.func88, Tryd.ntmps88
  go_wp2_with fail
  go_loopw [7] (fun iv wr => ∃ k : Nat, k ≤ l.length ∧ iv = .int .i64 k ∧ wr = w ∧ Hid (∀ c ∈ l.take k, Pr c)) (fun iv _ => l.length - (RowKit.intOf iv).toNat)
  case atStart => exact ⟨0, Nat.zero_le _, rfl, rfl, fun x hx => by simp at hx⟩
  case round =>
    obtain ⟨k, hk, rfl, rfl, HN⟩ := hrel
    by_cases hlt : k < l.length
    · obtain ⟨c, hc⟩ : ∃ c, l[k] = c := ⟨_, rfl⟩
      have hx : ∀ h : k < (⟨l.toArray⟩ : ByteArray).size, (⟨l.toArray⟩ : ByteArray)[k] = c := fun h => by rw [ba_at l k hlt h, hc]
      have i0 : (0 : Int) ≤ (k : Int) := by omega
      have i1 : (k : Int) < (l.length : Int) := by omega
      have hc256 : c.toNat < 256 := c.toNat_lt
      have HC := hid hc
      clear hc
      by_cases hp : Pr c
      · have HN2 := hid (take_all hlt HN.out (by rw [HC.out]; exact hp))
        unfold Pr at hp
        have u1 : ¬ ((c.toNat : Int) < 32) := by omega
        have u2 : ¬ ((126 : Int) < (c.toNat : Int)) := by omega
        clear hp
        go_wp2
        go_roundw
        case rel => exact ⟨k + 1, by omega, by go_num, trivial, HN2⟩
        case measure => simp [RowKit.intOf]; omega
      · have HF := hid (show decide (ValOk l) = false from decide_eq_false (fun h => hp (h.2 c (by rw [← HC.out]; exact List.getElem_mem hlt))))
        unfold Pr at hp
        by_cases u1 : (c.toNat : Int) < 32
        · clear hp
          go_wp2
          go_ret
          exact ⟨by rw [HF.out]; rfl, rfl⟩
        · have u2 : (126 : Int) < (c.toNat : Int) := by omega
          clear hp
          go_wp2
          go_ret
          exact ⟨by rw [HF.out]; rfl, rfl⟩
    · have hall := HN.out
      rw [List.take_of_length_le (by omega)] at hall
      by_cases h0 : l = []
      · subst h0
        have HF := hid (show decide (ValOk []) = false from decide_eq_false (fun h => h.1 rfl))
        clear hall
        go_wp2
        go_ret
        exact ⟨by rw [HF.out]; rfl, rfl⟩
      · have HF := hid (show decide (ValOk l) = true from decide_eq_true ⟨h0, hall⟩)
        have hz : (l == []) = false := by simpa using h0
        clear hall h0
        go_wp2
        go_ret
        exact ⟨by rw [HF.out]; first | rfl | simp [hz], rfl⟩

theorem cell_new {w w1 : World} {cs : Array Value} {T : TypeId} (j : Nat) {u : Value} (hb : Below (w.alloc (.cells cs T)).heap.size (w.alloc (.cells cs T)) w1) (h : cs[j]? = some u) : w1.cell? ⟨w.heap.size, j, none⟩ = some u := by
  rw [hb.cell (by simp)]
  rw [World.cell?_alloc_new]
  exact h

set_option maxHeartbeats 4000000 in
set_option maxRecDepth 100000 in
/-- text.fits. -/
theorem fits_any (l : List (Int × List UInt8)) (q : Option Addr) (cap : Nat) (t : Int) (v : List UInt8) (w : World) (hl : l.length < 9223372036854775808) (hv : v.length < 9223372036854775808) (hT : Ts w q l) :
    Calls Tryd.prog 76 #[.slice q l.length cap, .agg #[.int .i64 t, .string ⟨v.toArray⟩]] w fun e w' => e = .returned (.int .i64 (fitsE l (t, v))) ∧ Below w.heap.size w w' := by
  have HT := hid (hT.on (ball w (.cells #[.int .i64 t, .string ⟨v.toArray⟩] 76)))
  have HB0 := hid (ball w (.cells #[.int .i64 t, .string ⟨v.toArray⟩] 76))
  clear hT
  by_cases ht : TagOk t
  · obtain ⟨t1, t2, t3, t4, t5, t6⟩ := ht
    have ht : TagOk t := ⟨t1, t2, t3, t4, t5, t6⟩
    have u1 : ¬ (t < 1) := by omega
    have u2 : ¬ (9999 < t) := by omega
    have u3 : (t == 8) = false := by simpa using t3
    have u4 : (t == 9) = false := by simpa using t4
    have u5 : (t == 10) = false := by simpa using t5
    have u6 : (t == 35) = false := by simpa using t6
    have VA := hid (value_any l q cap t _ hl HT.out)
    cases hs : (val? l t).isSome with
    | true =>
      have e : fitsE l (t, v) = 30 := by unfold fitsE; rw [if_neg (by simpa using ht), if_pos hs]
      rw [e]
      rw [hs] at VA
      clear e hs ht t3 t4 t5 t6
      go_enter Tryd.func76, Tryd.ntmps76
      go_wp2_with (go_at_call 84; refine VA.out.mono ?_; rintro e w1 ⟨rfl, hb⟩; have HB1 := hid (btr' HB0.out hb); clear hb)
      go_ret
      exact ⟨rfl, HB1.out⟩
    | false =>
      rw [hs] at VA
      have hN : val? l t = none := by cases h : val? l t; rfl; rw [h] at hs; cases hs
      rw [hN] at VA
      simp only [Option.getD_none] at VA
      by_cases hv2 : ValOk v
      · have e : fitsE l (t, v) = 0 := by unfold fitsE; rw [if_neg (by simpa using ht), if_neg (by rw [hs]; decide), if_neg (by simpa using hv2)]
        rw [e]
        have IV := hid (fun w => isvalue_any v w hv)
        rw [decide_eq_true hv2] at IV
        clear e hs ht t3 t4 t5 t6 hv2 hN
        go_enter Tryd.func76, Tryd.ntmps76
        go_wp2_with (first | (go_at_call 84; refine VA.out.mono ?_; rintro e w1 ⟨rfl, hb⟩; have HB1 := hid (btr' HB0.out hb); have hc1 := cell_new 1 hb rfl; clear hb) | (go_at_call 88; refine (IV.out _).mono ?_; rintro e w2 ⟨rfl, rfl⟩))
        go_ret
        exact ⟨rfl, HB1.out⟩
      · have e : fitsE l (t, v) = 31 := by unfold fitsE; rw [if_neg (by simpa using ht), if_neg (by rw [hs]; decide), if_pos (by simpa using hv2)]
        rw [e]
        have IV := hid (fun w => isvalue_any v w hv)
        rw [decide_eq_false hv2] at IV
        clear e hs ht t3 t4 t5 t6 hv2 hN
        go_enter Tryd.func76, Tryd.ntmps76
        go_wp2_with (first | (go_at_call 84; refine VA.out.mono ?_; rintro e w1 ⟨rfl, hb⟩; have HB1 := hid (btr' HB0.out hb); have hc1 := cell_new 1 hb rfl; clear hb) | (go_at_call 88; refine (IV.out _).mono ?_; rintro e w2 ⟨rfl, rfl⟩))
        go_ret
        exact ⟨rfl, HB1.out⟩
  · have e : fitsE l (t, v) = 30 := by unfold fitsE; rw [if_pos (by simpa using ht)]
    rw [e]
    clear e
    by_cases u1 : t < 1
    · go_enter Tryd.func76, Tryd.ntmps76
      go_wp2
      go_ret
      exact ⟨rfl, HB0.out⟩
    · by_cases u2 : 9999 < t
      · go_enter Tryd.func76, Tryd.ntmps76
        go_wp2
        go_ret
        exact ⟨rfl, HB0.out⟩
      · have h4 : t = 8 ∨ t = 9 ∨ t = 35 ∨ t = 10 := by unfold TagOk at ht; omega
        clear ht u1 u2
        rcases h4 with rfl | rfl | rfl | rfl
        · go_enter Tryd.func76, Tryd.ntmps76
          go_wp2
          go_ret
          exact ⟨rfl, HB0.out⟩
        · go_enter Tryd.func76, Tryd.ntmps76
          go_wp2
          go_ret
          exact ⟨rfl, HB0.out⟩
        · go_enter Tryd.func76, Tryd.ntmps76
          go_wp2
          go_ret
          exact ⟨rfl, HB0.out⟩
        · go_enter Tryd.func76, Tryd.ntmps76
          go_wp2
          go_ret
          exact ⟨rfl, HB0.out⟩
end Go.Proofs.YtacdjioieclggaaDoor
namespace Go.Proofs.YtacdjioieclggaaDoor
open Go.RowKit Go.Deep Go.Lib Go.Shelf Go.Sort
set_option linter.unusedVariables false
/-- bytes in memory. -/
def Sb (w : World) (q : Option Addr) (l : List UInt8) : Prop :=
  ∀ i (h : i < l.length), ∃ b o, q = some ⟨b, o, none⟩ ∧ w.cell? ⟨b, o + i, none⟩ = some (.int .u8 ((l[i]'h).toNat : Int))
theorem Sb.on {w w' : World} {q : Option Addr} {l : List UInt8} (h : Sb w q l) (hb : Below w.heap.size w w') : Sb w' q l := fun i hi => by
  obtain ⟨b, o, e, h0⟩ := h i hi
  exact ⟨b, o, e, by rw [hb.cell (cell_lt h0)]; exact h0⟩
def sumB (l : List UInt8) : Nat := l.foldl (fun s c => (s + c.toNat) % 256) 0
theorem sumB_nil : sumB [] = 0 := by simp only [sumB, List.foldl_nil]
theorem sumB_snoc (l : List UInt8) (c : UInt8) : sumB (l ++ [c]) = (sumB l + c.toNat) % 256 := by
  simp only [sumB, List.foldl_append, List.foldl_cons, List.foldl_nil]
theorem sumB_lt (l : List UInt8) : sumB l < 256 := by
  rcases List.eq_nil_or_concat l with rfl | ⟨m, c, rfl⟩
  · rw [sumB_nil]; decide
  · rw [List.concat_eq_append, sumB_snoc]; omega

set_option maxHeartbeats 2000000 in
set_option maxRecDepth 100000 in
/-- text.Sum. -/
theorem sum_any (l : List UInt8) (q : Option Addr) (cap : Nat) (w : World) (hl : l.length < 9223372036854775808) (hS : Sb w q l) :
    Calls Tryd.prog 89 #[.slice q l.length cap] w fun e w' => e = .returned (.int .i64 (sumB l : Nat)) ∧ w' = w := by
  have HS := hid hS
  clear hS
  go_enter Tryd.func89, Tryd.ntmps89
  go_wp2_with fail
  go_loopw [3, 7] (fun sv iv wr => ∃ k s : Nat, k ≤ l.length ∧ iv = .int .i64 k ∧ sv = .int .u8 s ∧ s < 256 ∧ Hid (sumB (l.take k) = s) ∧ wr = w) (fun _ iv _ => l.length - (RowKit.intOf iv).toNat)
  case atStart => exact ⟨0, 0, Nat.zero_le _, rfl, rfl, by decide, hid (by rw [List.take_zero, sumB_nil]), rfl⟩
  case round =>
    obtain ⟨k, s, hk, rfl, rfl, hs, HR, rfl⟩ := hrel
    by_cases hlt : k < l.length
    · obtain ⟨b, o, rfl, h0⟩ := HS.out k hlt
      obtain ⟨c, hc⟩ : ∃ c, l[k] = c := ⟨_, rfl⟩
      rw [hc] at h0
      have i0 : (0 : Int) ≤ (k : Int) := by omega
      have i1 : (k : Int) < (l.length : Int) := by omega
      have hc256 : c.toNat < 256 := c.toNat_lt
      have HR2 := hid (show sumB (l.take (k + 1)) = (s + c.toNat) % 256 by rw [List.take_succ_eq_append_getElem hlt, sumB_snoc, HR.out, hc])
      clear hc
      have hw : IntKind.u8.wrap ((s : Int) + (c.toNat : Int)) = (((s + c.toNat) % 256 : Nat) : Int) := by rw [IntKind.wrap_u8]; omega
      go_wp2
      go_roundw
      case rel => exact ⟨k + 1, (s + c.toNat) % 256, by omega, by go_num, by first | rfl | (congr 1; omega), by omega, HR2, trivial⟩
      case measure => simp [RowKit.intOf]; omega
    · have hr := HR.out
      rw [List.take_of_length_le (by omega)] at hr
      have HR2 := hid hr
      clear hr
      go_wp2
      go_ret
      exact ⟨by rw [HR2.out]; rfl, rfl⟩
/-- a field's bytes. -/
def fieldB (x : Int × List UInt8) : List UInt8 := decDigits x.1.toNat ++ 61 :: (x.2 ++ [1])
theorem fieldB_len (x : Int × List UInt8) : (fieldB x).length = nDigits x.1.toNat + 1 + x.2.length + 1 := by
  unfold fieldB; simp [decDigits_length]; omega

set_option maxHeartbeats 4000000 in
set_option maxRecDepth 100000 in
/-- text.fieldSize. -/
theorem fieldsize_any (t : Nat) (v : List UInt8) (w : World) (ht : t < 10000) (hv : v.length < 281474976710656) (hL : Lay w) :
    Calls Tryd.prog 75 #[.agg #[.int .i64 t, .string ⟨v.toArray⟩]] w fun e w' => e = .returned (.int .i64 ((fieldB (t, v)).length : Nat)) ∧ Below w.heap.size w w' := by
  obtain ⟨W, hW⟩ : ∃ W, w.alloc (.cells #[.int .i64 t, .string ⟨v.toArray⟩] 76) = W := ⟨_, rfl⟩
  have HB0 := hid (show Below w.heap.size w W from hW ▸ ball w (.cells #[.int .i64 t, .string ⟨v.toArray⟩] 76))
  have HLW := hid (show Lay W from hW ▸ hL.alloc (.cells #[.int .i64 t, .string ⟨v.toArray⟩] 76))
  have keep : ∀ w', Below W.heap.size W w' → (w'.cell? ⟨w.heap.size, 0, none⟩ = some (.int .i64 t) ∧ w'.cell? ⟨w.heap.size, 1, none⟩ = some (.string ⟨v.toArray⟩)) ∧ Below W.heap.size W w' := by
    intro w' hb
    refine ⟨⟨?_, ?_⟩, hb⟩
    · subst hW; exact cell_new 0 hb rfl
    · subst hW; exact cell_new 1 hb rfl
  have KEEP := hid keep
  have DC := hid (fun w' hL => decimal_any t (by omega) w' hL)
  have hlen := decDigits_length t
  have hn5 : nDigits t ≤ 20 := nDigits_le20 t (by omega)
  have HF := hid (show (fieldB (t, v)).length = nDigits t + 1 + v.length + 1 from fieldB_len (t, v))
  obtain ⟨D, hD⟩ : ∃ D, decDigits t = D := ⟨_, rfl⟩
  rw [hD] at DC hlen
  rw [← hlen] at HF hn5
  clear keep hL hlen hD
  have HV := hid hv
  have hwt : IntKind.u64.wrap (t : Int) = (t : Int) := by rw [IntKind.wrap_u64]; omega
  have hw1 : IntKind.i64.wrap ((D.length : Int) + 1) = (D.length : Int) + 1 := by rw [IntKind.wrap_i64]; omega
  have hw2 : IntKind.i64.wrap ((D.length : Int) + 1 + (v.length : Int)) = (D.length : Int) + 1 + (v.length : Int) := by rw [IntKind.wrap_i64]; omega
  have hw3 : IntKind.i64.wrap ((D.length : Int) + 1 + (v.length : Int) + 1) = (D.length : Int) + 1 + (v.length : Int) + 1 := by rw [IntKind.wrap_i64]; omega
  go_enter Tryd.func75, Tryd.ntmps75
  go_wp2
  (try rw [hW])
  clear hW
  go_region_held3 (fun w' => (w'.cell? ⟨w.heap.size, 0, none⟩ = some (.int .i64 t) ∧ w'.cell? ⟨w.heap.size, 1, none⟩ = some (.string ⟨v.toArray⟩)) ∧ Below W.heap.size W w')
    (first | exact KEEP.out _ (Below.drew (Below.refl _ _)) | exact KEEP.out _ HK.out)
    (first
    | (go_at_call 51; refine (DC.out _ (by first | exact HLW.out.on (Below.drew (Below.refl _ _)) | exact HLW.out.on HK.out)).mono ?_; rintro e wx ⟨rfl, hbk⟩; have HK := hid (show Below W.heap.size W wx from (by first | exact btr' HK.out hbk | exact btr' (Below.drew (Below.refl _ _)) hbk)); clear hbk))
  all_goals
    go_wp2
    go_ret
    refine ⟨?_, btr' HB0.out HK.out⟩
    rw [HF.out]
    first | rfl | (congr 2; simp; omega) | (congr 2; omega)

/-- bytes in a slice of one's own. -/
def Own (B : Nat) (W0 w : World) (v : Value) (l : List UInt8) : Prop := w.ownsRow B 5 1 v l.length (byteCells l) ∧ Below B W0 w ∧ B ≤ w.heap.size
theorem Own.on {B : Nat} {W0 w w' : World} {v : Value} {l : List UInt8} (h : Own B W0 w v l) (hb : Below w.heap.size w w') : Own B W0 w' v l := by
  obtain ⟨⟨h1, h2⟩, h3, h4⟩ := h
  refine ⟨⟨h1, ?_⟩, h3.trans (hb.mono h4), Nat.le_trans h4 hb.size⟩
  rcases h2 with h2 | ⟨g, cap, cur, e, hB, hg, r⟩
  · exact Or.inl h2
  · refine Or.inr ⟨g, cap, cur, e, hB, ?_, r⟩
    have hlt : g < w.heap.size := by
      rcases Nat.lt_or_ge g w.heap.size with h | h
      · exact h
      · rw [Array.getElem?_eq_none h] at hg; cases hg
    rw [hb.block g hlt]; exact hg
theorem Own.form {B : Nat} {W0 w : World} {v : Value} {l : List UInt8} (h : Own B W0 w v l) : ∃ q cap, v = .slice q l.length cap ∧ Sb w q l := by
  obtain ⟨⟨h1, h2⟩, h3, h4⟩ := h
  rcases h2 with ⟨rfl, hn⟩ | ⟨g, cap, cur, e, hB, hg, h5, h6, h7, h8⟩
  · exact ⟨none, 0, by rw [hn], fun i hi => by omega⟩
  · refine ⟨some ⟨g, 0, none⟩, cap, e, fun i hi => ⟨g, 0, rfl, ?_⟩⟩
    have hc := World.ownsRow.cells (w := w) (base := B) (e := 5) (size := 1) (v := v) (n := l.length) (xs := byteCells l) ⟨h1, Or.inr ⟨g, cap, cur, e, hB, hg, h5, h6, h7, h8⟩⟩ (g := g) (by rw [e]; rfl) i (.int .u8 (l[i].toNat : Int)) (by unfold byteCells; rw [List.getElem?_map, List.getElem?_eq_getElem hi]; rfl)
    rw [Addr.add_mid] at hc
    exact hc
theorem info5all : (Tryd.prog.info? 5).map (fun i => (i.zero, i.size, i.bytes)) = some (some (.int .u8 0), 1, 1) := by kernel_rfl
/-- a tag in a block of its own. -/
def Bx (w : World) (b : Nat) (t : Int) (v : List UInt8) : Prop := w.heap[b]? = some (.cells #[.int .i64 t, .string ⟨v.toArray⟩] 76 (0, 0))
def Kx (w w' : World) : Prop := ∀ b t v, Bx w b t v → Bx w' b t v
theorem Bx.lt {w : World} {b : Nat} {t : Int} {v : List UInt8} (h : Bx w b t v) : b < w.heap.size := by
  unfold Bx at h
  rcases Nat.lt_or_ge b w.heap.size with h' | h'
  · exact h'
  · rw [Array.getElem?_eq_none h'] at h; cases h
theorem Bx.cell {w : World} {b : Nat} {t : Int} {v : List UInt8} (h : Bx w b t v) : w.cell? ⟨b, 0, none⟩ = some (.int .i64 t) ∧ w.cell? ⟨b, 1, none⟩ = some (.string ⟨v.toArray⟩) := by
  unfold Bx at h
  simp [World.cell?, h]
theorem Bx.on {w w' : World} {b : Nat} {t : Int} {v : List UInt8} (h : Bx w b t v) (hb : Below w.heap.size w w') : Bx w' b t v := by
  unfold Bx
  rw [hb.block b h.lt]; exact h
theorem Kx.of {w w' : World} (hb : Below w.heap.size w w') : Kx w w' := fun b t v h => h.on hb
theorem Kx.trans {a b c : World} (h : Kx a b) (k : Kx b c) : Kx a c := fun x t v hx => k x t v (h x t v hx)
theorem Kx.refl (a : World) : Kx a a := fun x t v hx => hx
theorem bx_new (w : World) (t : Int) (v : List UInt8) : Bx (w.alloc (.cells #[.int .i64 t, .string ⟨v.toArray⟩] 76)) w.heap.size t v := by
  show (w.heap.push _)[w.heap.size]? = _
  simp
theorem Own.kx {B : Nat} {W0 w w' : World} {v : Value} {l : List UInt8} (h : Own B W0 w v l) (hg : w.grownBy w' v.ownBlock) : Kx w w' := fun b t x hx => by
  have hne := ownBlock_neF (World.ownsRowF_of h.1) hx (by decide)
  unfold Bx
  rw [hg.block b hx.lt (fun e => hne e.symm)]
  exact hx
theorem own_text {ops : Array Oper} {rest : List Oper} {o : Oper} {a : Act} {Q : Exit → Act → World → Prop} {w : World} (hgd : o.guard = none) (sl x : Operand)
    (ho : o.op = .call { callee := .builtin .append, args := #[sl, x], argTypes := #[31, 9] }) (B : Nat) (v : Value) (l : List UInt8) (hs : a.eval sl = v) (W0 : World) (hb : Own B W0 w v l) (t : List UInt8) (hx : a.eval x = .string ⟨t.toArray⟩) (hlen : l.length + t.length ≤ 140737488355328)
    (h : ∀ v' w', Own B W0 w' v' (l ++ t) → Kx w w' → wpList Tryd.prog ops Q rest (a.put o.dst v') w') : wpList Tryd.prog ops Q (o :: rest) a w := by
  obtain ⟨i0, hi, hz0, hz1, hz2⟩ := info_parts info5all
  have hsz : (⟨t.toArray⟩ : ByteArray).size = t.length := by simp [ByteArray.size]
  refine wpList_append_own_string w hgd sl x 31 9 ho B 5 i0 Tryd.underlying31 Tryd.underlying9 hi hz0 hz1 hz2 v l.length _ hs hb.1 ⟨t.toArray⟩ hx (by unfold maxLen; rw [hsz]; omega) (by rw [hsz]; exact hlen) hb.2.2 ?_
  intro v' w' ho' hg _
  refine h v' w' ?_ (hb.kx hg)
  have hO : w'.ownsRow B 5 1 v' _ _ ∧ Below B W0 w' ∧ B ≤ w'.heap.size := ⟨ho', hb.2.1.grown hg hb.2.2 (fun k hk => (hb.1.lt k hk).1), Nat.le_trans hb.2.2 hg.size⟩
  unfold Own
  rw [byteCells_append, List.length_append, ← strCells_toArray t, ← hsz]
  exact hO
theorem own_byte {ops : Array Oper} {rest : List Oper} {o : Oper} {a : Act} {Q : Exit → Act → World → Prop} (hgd : o.guard = none) (sl x : Operand)
    (ho : o.op = .call { callee := .builtin .append, args := #[sl, x], argTypes := #[31, 31] }) (B : Nat) (v : Value) (l : List UInt8) (hs : a.eval sl = v) (W0 w0 : World) (c : UInt8) (z : Int) (hz : z = (c.toNat : Int)) (hb0 : Own B W0 w0 v l) (hx : a.eval x = .slice (some ⟨w0.heap.size, 0, none⟩) 1 1) (hlen : l.length + 1 ≤ 140737488355328)
    (h : ∀ v' w', Own B W0 w' v' (l ++ [c]) → Kx w0 w' → wpList Tryd.prog ops Q rest (a.put o.dst v') w') : wpList Tryd.prog ops Q (o :: rest) a (w0.alloc (.cells #[.int .u8 z] 5)) := by
  subst hz
  obtain ⟨i0, hi, hz0, hz1, hz2⟩ := info_parts info5all
  have hb' : Own B W0 (w0.alloc (.cells #[.int .u8 (c.toNat : Int)] 5)) v l := hb0.on (ball _ _)
  refine wpList_append_own _ hgd sl x 31 ho B 5 i0 (.int .u8 0) 1 1 Tryd.underlying31 hi hz0 hz1 hz2 rfl (by decide) v l.length _ hs hb'.1 ⟨w0.heap.size, 0, none⟩ 1 1 [.int .u8 (c.toNat : Int)] hx rfl ?_ ?_ (by unfold maxLen; omega) (by omega) hb'.2.2 ?_
  · intro j u hj
    match j, hj with
    | 0, hj => simp at hj; subst hj; simp [Addr.add]
    | (j + 1), hj => simp at hj
  · intro u hu; simp at hu; subst hu; rfl
  · intro v' w' ho' hg _
    refine h v' w' ?_ ((Kx.of (ball _ _)).trans (hb'.kx hg))
    have hO : w'.ownsRow B 5 1 v' _ _ ∧ Below B W0 w' ∧ B ≤ w'.heap.size := ⟨ho', hb'.2.1.grown hg hb'.2.2 (fun k hk => (hb'.1.lt k hk).1), Nat.le_trans hb'.2.2 hg.size⟩
    unfold Own
    rw [byteCells_append, List.length_append]
    exact hO

set_option maxHeartbeats 4000000 in
set_option maxRecDepth 100000 in
/-- text.appendField. -/
theorem appendfield_any (B : Nat) (W0 : World) (sv : Value) (l : List UInt8) (t : Nat) (v : List UInt8) (w : World) (ht : t < 10000) (hv : l.length + v.length ≤ 140737488355000) (hO : Own B W0 w sv l) (hL : Lay w) :
    Calls Tryd.prog 77 #[sv, .agg #[.int .i64 t, .string ⟨v.toArray⟩]] w fun e w' => ∃ sv', e = .returned sv' ∧ Own B W0 w' sv' (l ++ fieldB (t, v)) ∧ Kx w w' := by
  have HO := hid (hO.on (ball w (.cells #[.int .i64 t, .string ⟨v.toArray⟩] 76)))
  have HL := hid (hL.alloc (.cells #[.int .i64 t, .string ⟨v.toArray⟩] 76))
  have K0 := hid (Kx.of (ball w (.cells #[.int .i64 t, .string ⟨v.toArray⟩] 76)))
  have B0 := hid (bx_new w t v)
  have DC := hid (fun w' hL => decimal_any t (by omega) w' hL)
  have hlen := decDigits_length t
  have hn5 : nDigits t ≤ 20 := nDigits_le20 t (by omega)
  have HF := hid (show l ++ fieldB (t, v) = (((l ++ decDigits t) ++ [61]) ++ v) ++ [1] by unfold fieldB; simp)
  obtain ⟨D, hD⟩ : ∃ D, decDigits t = D := ⟨_, rfl⟩
  rw [hD] at DC hlen HF
  rw [← hlen] at hn5
  have hwt : IntKind.u64.wrap (t : Int) = (t : Int) := by rw [IntKind.wrap_u64]; omega
  clear hO hL hlen hD
  go_enter Tryd.func77, Tryd.ntmps77
  go_wp2_with (first | (go_at_call 51; refine (DC.out _ HL.out).mono ?_; rintro e w1 ⟨rfl, hb⟩; have O1 := hid (HO.out.on hb); have B1 := hid (B0.out.on hb); have K1 := hid (K0.out.trans (Kx.of hb)); clear hb) | (at_builtin; refine own_text (by rfl) (.tmp 5) (.tmp 9) (by rfl) B sv l (by rfl) W0 O1.out D (by rfl) (by omega) ?_; intro v2 w2 hO2 hK2; have O2 := hid hO2; have B2 := hid (hK2 _ _ _ B1.out); have K2 := hid (K1.out.trans hK2); clear hO2 hK2) | (at_builtin; refine own_byte (by rfl) (.tmp 11) (.tmp 12) (by rfl) B v2 _ (by rfl) W0 w2 61 61 (by decide) O2.out (by rfl) (by simp; omega) ?_; intro v3 w3 hO3 hK3; have O3 := hid hO3; have hc3 := (hK3 _ _ _ B2.out).cell.2; have K3 := hid (K2.out.trans hK3); clear hO3 hK3) | (at_builtin; refine own_text (by rfl) (.tmp 14) (.tmp 16) (by rfl) B v3 _ (by rfl) W0 O3.out v (by rfl) (by simp; omega) ?_; intro v4 w4 hO4 hK4; have O4 := hid hO4; have K4 := hid (K3.out.trans hK4); clear hO4 hK4) | (at_builtin; refine own_byte (by rfl) (.tmp 18) (.tmp 19) (by rfl) B v4 _ (by rfl) W0 w4 1 1 (by decide) O4.out (by rfl) (by simp; omega) ?_; intro v5 w5 hO5 hK5; have O5 := hid hO5; have K5 := hid (K4.out.trans hK5); clear hO5 hK5))
  go_ret
  exact ⟨_, rfl, by rw [HF.out]; exact O5.out, K5.out⟩

/-- the field with the check sum of all bytes ahead of it. -/
def trailB (l : List UInt8) : List UInt8 := [49, 48, 61] ++ (decDigits (1000 + sumB l)).drop 1 ++ [1]
set_option maxHeartbeats 4000000 in
set_option maxRecDepth 100000 in
/-- text.trail. -/
theorem trail_any (l : List UInt8) (q : Option Addr) (cap : Nat) (w : World) (hl : l.length < 9223372036854775808) (hS : Sb w q l) (hL : Lay w) :
    Calls Tryd.prog 78 #[.slice q l.length cap] w fun e w' => e = .returned (.string ⟨(trailB l).toArray⟩) ∧ Below w.heap.size w w' := by
  have HS := hid (sum_any l q cap w hl hS)
  have hlt := sumB_lt l
  have HT := hid (show trailB l = [49, 48, 61] ++ (decDigits (1000 + sumB l)).drop 1 ++ [1] from rfl)
  obtain ⟨s, hs⟩ : ∃ s, sumB l = s := ⟨_, rfl⟩
  rw [hs] at HS hlt HT
  have DC := hid (decimal_any (1000 + s) (by omega) w hL)
  have hlen := decDigits_length (1000 + s)
  have h4 : nDigits (1000 + s) = 4 := nDigits_unique 3 _ (by omega) (by omega)
  rw [h4] at hlen
  obtain ⟨D, hD⟩ : ∃ D, decDigits (1000 + s) = D := ⟨_, rfl⟩
  rw [hD] at DC hlen HT
  obtain ⟨d0, d1, d2, d3, rfl⟩ : ∃ a b c d, D = [a, b, c, d] := by
    match D, hlen with
    | [a, b, c, d], _ => exact ⟨a, b, c, d, rfl⟩
  rw [show ((1000 + s : Nat) : Int) = 1000 + (s : Int) by omega] at DC
  clear hs hD hlen h4 hL hS
  go_enter Tryd.func78, Tryd.ntmps78
  go_wp2_with (first | (go_at_call 89; refine HS.out.mono ?_; rintro e w1 ⟨rfl, rfl⟩) | (go_at_call 51; refine DC.out.mono ?_; rintro e w1 ⟨rfl, hb⟩))
  go_ret
  refine ⟨?_, hb⟩
  rw [HT.out]
  rfl
end Go.Proofs.YtacdjioieclggaaDoor
namespace Go.Proofs.YtacdjioieclggaaDoor
open Go.RowKit Go.Deep Go.Lib Go.Shelf Go.Sort
set_option linter.unusedVariables false
def headB (n : Nat) : List UInt8 := [56, 61, 66, 82, 83, 46, 49, 1, 57, 61] ++ decDigits n
def bodyB (kind : List UInt8) (l : List (Int × List UInt8)) : List UInt8 := fieldB (35, kind) ++ l.flatMap fieldB
def aheadB (kind : List UInt8) (l : List (Int × List UInt8)) : List UInt8 := headB (bodyB kind l).length ++ [1] ++ bodyB kind l
def lineB (kind : List UInt8) (l : List (Int × List UInt8)) : List UInt8 := aheadB kind l ++ trailB (aheadB kind l)
/-- the first field that can't stand. -/
def firstE : List (Int × List UInt8) → List (Int × List UInt8) → Int
  | _, [] => 0
  | a, x :: r => if fitsE a x = 0 then firstE (a ++ [x]) r else fitsE a x
def encE (kind : List UInt8) (l : List (Int × List UInt8)) : Int :=
  if ¬ KindOk kind then 3 else if 64 < l.length then 2 else if firstE [] l = 0 then (if 2048 < (lineB kind l).length then 2 else 0) else firstE [] l
def encB (kind : List UInt8) (l : List (Int × List UInt8)) : List UInt8 := if encE kind l = 0 then lineB kind l else []
theorem own_nil (w : World) : Own w.heap.size w w (.slice none 0 0) [] := ⟨World.ownsRow_nil _ _ _ _, Below.refl _ _, Nat.le_refl _⟩
theorem own_nilB {w w' : World} (h : Below w.heap.size w w') : Own w.heap.size w w' (.slice none 0 0) [] := ⟨World.ownsRow_nil _ _ _ _, h, h.size⟩
theorem firstE_drop {l : List (Int × List UInt8)} (k : Nat) (hk : k < l.length) : firstE (l.take k) (l.drop k) = if fitsE (l.take k) l[k] = 0 then firstE (l.take (k + 1)) (l.drop (k + 1)) else fitsE (l.take k) l[k] := by
  rw [List.drop_eq_getElem_cons hk, firstE, List.take_succ_eq_append_getElem hk]
theorem fits_tag {a : List (Int × List UInt8)} {x : Int × List UInt8} (h : fitsE a x = 0) : TagOk x.1 ∧ ValOk x.2 := by
  unfold fitsE at h
  split at h
  · cases h
  · rename_i h1
    split at h
    · cases h
    · split at h
      · cases h
      · rename_i h3
        exact ⟨by simpa using h1, by simpa using h3⟩
theorem flat_take {l : List (Int × List UInt8)} {k : Nat} (hk : k < l.length) : (l.take (k + 1)).flatMap fieldB = (l.take k).flatMap fieldB ++ fieldB l[k] := by
  rw [List.take_succ_eq_append_getElem hk, List.flatMap_append]; simp

theorem trailB_len (l : List UInt8) : (trailB l).length = 7 := by
  unfold trailB
  have hlt := sumB_lt l
  have h4 : nDigits (1000 + sumB l) = 4 := nDigits_unique 3 _ (by omega) (by omega)
  simp [decDigits_length, h4]
theorem ba_append (a b : List UInt8) : (⟨a.toArray⟩ : ByteArray) ++ ⟨b.toArray⟩ = ⟨(a ++ b).toArray⟩ := by
  apply ByteArray.ext
  simp [ByteArray.data_append]
theorem aheadB_len (kind : List UInt8) (l : List (Int × List UInt8)) : (aheadB kind l).length = 10 + nDigits (bodyB kind l).length + 1 + (bodyB kind l).length := by
  unfold aheadB headB; simp [decDigits_length]; omega
theorem lineB_len (kind : List UInt8) (l : List (Int × List UInt8)) : (lineB kind l).length = 10 + nDigits (bodyB kind l).length + 1 + (bodyB kind l).length + 7 := by
  unfold lineB; rw [List.length_append, trailB_len, aheadB_len]

theorem own_make (c : Nat) (z : Int) (hz : z = (c : Int)) (hc : c ≤ 281474976710656) {B : Nat} {W0 w : World} (hb : Below B W0 w) (hB : B ≤ w.heap.size) :
    ∃ w', (Instr.makeSlice 31 (.int .i64 0) (.int .i64 z)).run Tryd.prog w = .ok (.slice (some ⟨w.heap.size, 0, none⟩) 0 c) w' ∧ Own B W0 w' (.slice (some ⟨w.heap.size, 0, none⟩) 0 c) [] ∧ Kx w w' := by
  subst hz
  obtain ⟨i0, hi, hz0, hz1, hz2⟩ := info_parts info5all
  obtain ⟨w', h1, h2, h3⟩ := run_make_own (P := Tryd.prog) w B 31 5 i0 (.int .u8 0) 1 Tryd.underlying31 hi hz0 hz1 .i64 .i64 c (by rw [hz2]; omega) (by unfold maxLen; omega) hB
  have hbb : Below w.heap.size w w' := (Below.refl _ _).grown h3 (Nat.le_refl _) (fun k hk => by cases hk)
  exact ⟨w', h1, ⟨h2, hb.trans (hbb.mono hB), Nat.le_trans hB h3.size⟩, Kx.of hbb⟩

set_option maxHeartbeats 4000000 in
set_option maxRecDepth 100000 in
/-- text.Encode. -/
theorem encode_any (kind : List UInt8) (l : List (Int × List UInt8)) (q : Option Addr) (cap : Nat) (w : World) (hk : kind.length ≤ 140737488355328) (hs : ∀ x ∈ l, x.2.length ≤ 140737488355328) (hl : l.length < 9223372036854775808) (hcap : l.length ≤ cap) (hcm : cap < 9223372036854775808) (hT : Ts w q l) (hL : Lay w) :
    Calls Tryd.prog 52 #[.string ⟨kind.toArray⟩, .slice q l.length cap] w fun e w' => ∃ v, e = .returned (.tuple #[v, .int .i64 (encE kind l)]) ∧ Own w.heap.size w w' v (encB kind l) ∧ (encE kind l ≠ 0 → v = .slice none 0 0) := by
  have HT := hid hT
  have HL := hid hL
  have HSz := hid hs
  have IK := hid (iskind_any kind w (by omega))
  clear hT hL hs
  by_cases hkd : KindOk kind
  · rw [decide_eq_true hkd] at IK
    by_cases h64 : 64 < l.length
    · have e : encE kind l = 2 := by unfold encE; rw [if_neg (by simpa using hkd), if_pos h64]
      have e2 : encB kind l = [] := by unfold encB; rw [e]; rfl
      rw [e, e2]
      clear e e2
      have h64' : (64 : Int) < (l.length : Int) := by omega
      go_enter Tryd.func52, Tryd.ntmps52
      go_wp2_with (go_at_call 74; refine IK.out.mono ?_; rintro e w1 ⟨rfl, rfl⟩)
      go_ret2
      exact ⟨_, rfl, own_nil _, fun _ => rfl⟩
    · have h64' : ¬ ((64 : Int) < (l.length : Int)) := by omega
      have E1 := hid (show encE kind l = if firstE [] l = 0 then (if 2048 < (lineB kind l).length then 2 else 0) else firstE [] l by unfold encE; rw [if_neg (by simpa using hkd), if_neg h64])
      have hk2 : kind.length ≤ 2 := by have := hkd.1; omega
      have FS0 := hid (fun w1 hL => fieldsize_any 35 kind w1 (by omega) (by omega) hL)
      have hf0 : (fieldB (35, kind)).length ≤ 40 := by
        rw [fieldB_len]
        have : nDigits 35 = 2 := nDigits_unique 1 35 (by decide) (by decide)
        simp; omega
      obtain ⟨f0, hf0e⟩ : ∃ n, (fieldB (35, kind)).length = n := ⟨_, rfl⟩
      rw [show ((35 : Nat) : Int) = 35 from rfl, hf0e] at FS0
      rw [hf0e] at hf0
      have A0 := hid (ball w (.cells #[.int .i64 35, .string ⟨kind.toArray⟩] 76))
      have BX0 := hid (bx_new w 35 kind)
      have HLA := hid (HL.out.alloc (.cells #[.int .i64 35, .string ⟨kind.toArray⟩] 76))
      have hf0E := hid hf0e
      have HKD := hid hkd
      have H64 := hid h64
      clear hf0e hkd h64
      go_enter Tryd.func52, Tryd.ntmps52
      go_wp2_with (first | (go_at_call 74; refine IK.out.mono ?_; rintro e w ⟨rfl, rfl⟩) | (go_at_call 75; refine (FS0.out _ HLA.out).mono ?_; rintro e w2 ⟨rfl, hb⟩; have HB2 := hid (btr' A0.out hb); have BX2 := hid (BX0.out.on hb); clear hb))
      go_loopw [7, 30] (fun szv iv wr => ∃ k sz : Nat, k ≤ l.length ∧ iv = .int .i64 k ∧ szv = .int .i64 sz ∧ sz ≤ 40 + k * 140737488355400 ∧ Hid (sz = f0 + ((l.take k).flatMap fieldB).length) ∧ Hid (firstE [] l = firstE (l.take k) (l.drop k)) ∧ Hid (Below w.heap.size w wr) ∧ Hid (Bx wr w.heap.size 35 kind) ∧ Hid (∀ x ∈ l.take k, TagOk x.1 ∧ ValOk x.2)) (fun _ iv _ => l.length - (RowKit.intOf iv).toNat)
      case atStart => exact ⟨0, f0, Nat.zero_le _, rfl, rfl, by omega, hid (by simp), hid (by simp), HB2, BX2, fun x hx => by simp at hx⟩
      case round =>
        obtain ⟨k, sz, hk, rfl, rfl, hsz, HSZ, HFI, HB, HBX, HOK⟩ := hrel
        by_cases hlt : k < l.length
        · obtain ⟨b, o, rfl, h0, h1⟩ := (HT.out.on HB.out) k hlt
          have hbb := cell_lt h0
          have i0 : (0 : Int) ≤ (k : Int) := by omega
          have i1 : (k : Int) < (l.length : Int) := by omega
          have i2 : (k : Int) ≤ (cap : Int) := by omega
          obtain ⟨z, s, hz⟩ : ∃ z s, l[k] = (z, s) := ⟨_, _, rfl⟩
          have hsl : s.length ≤ 140737488355328 := HSz.out (z, s) (by rw [← hz]; exact List.getElem_mem hlt)
          have HFD := hid (firstE_drop k hlt)
          have HFT := hid (flat_take hlt)
          rw [hz] at h0 h1 HFD HFT
          simp only at h0 h1 hbb
          have hlk : (l.take k).length = k := by simp; omega
          have FT := hid (fun w' hT => fits_any (l.take k) (some ⟨b, o, none⟩) cap z s w' (by omega) (by omega) hT)
          rw [hlk] at FT
          obtain ⟨W, hW⟩ : ∃ W, wr.alloc (.cells #[.int .i64 z, .string ⟨s.toArray⟩] 76) = W := ⟨_, rfl⟩
          have AB := hid (show Below wr.heap.size wr W from hW ▸ ball wr (.cells #[.int .i64 z, .string ⟨s.toArray⟩] 76))
          have ABX := hid (show Bx W wr.heap.size z s from hW ▸ bx_new wr z s)
          have keep : ∀ w', Below W.heap.size W w' → (w'.cell? ⟨wr.heap.size, 0, none⟩ = some (.int .i64 z) ∧ w'.cell? ⟨wr.heap.size, 1, none⟩ = some (.string ⟨s.toArray⟩)) ∧ Below W.heap.size W w' := by
            intro w' hb
            exact ⟨(ABX.out.on hb).cell, hb⟩
          have KEEP := hid keep
          clear keep hlk hbb
          go_wp2
          (try rw [hW])
          clear hW
          obtain ⟨F, hF⟩ : ∃ F, fitsE (l.take k) (z, s) = F := ⟨_, rfl⟩
          rw [hF] at FT
          have HTW := hid (fun w' (hb : Below W.heap.size W w') => ts_take (HT.out.on (btr' HB.out (btr' AB.out hb))) k)
          by_cases hF0 : F = 0
          · subst hF0
            have HFI2 := hid (show firstE [] l = firstE (l.take (k + 1)) (l.drop (k + 1)) by rw [HFI.out, HFD.out, if_pos hF])
            obtain ⟨tk, vk⟩ := fits_tag hF
            simp only at tk vk
            have HOK2 := hid (show ∀ x ∈ l.take (k + 1), TagOk x.1 ∧ ValOk x.2 by
              rw [List.take_succ_eq_append_getElem hlt, hz]
              intro x hx
              rcases List.mem_append.1 hx with hx | hx
              · exact HOK.out x hx
              · obtain rfl := List.mem_singleton.1 hx; exact ⟨tk, vk⟩)
            obtain ⟨zn, rfl⟩ : ∃ zn : Nat, z = (zn : Int) := ⟨z.toNat, by have := tk.1; omega⟩
            have hzn : zn < 10000 := by have := tk.2.1; omega
            have FS := hid (fun w' hL => fieldsize_any zn s w' hzn (by omega) hL)
            have hfl : (fieldB ((zn : Int), s)).length ≤ 140737488355400 := by
              rw [fieldB_len]
              have := nDigits_le20 zn (by omega)
              simp; omega
            have HSZ2 := hid (show sz + (fieldB ((zn : Int), s)).length = f0 + ((l.take (k + 1)).flatMap fieldB).length by rw [HFT.out, List.length_append, HSZ.out]; omega)
            obtain ⟨fl, hfle⟩ : ∃ n, (fieldB ((zn : Int), s)).length = n := ⟨_, rfl⟩
            rw [hfle] at FS hfl HSZ2
            clear hfle hF hz tk vk HFD HFT
            go_region_held3 (fun w' => (w'.cell? ⟨wr.heap.size, 0, none⟩ = some (.int .i64 (zn : Int)) ∧ w'.cell? ⟨wr.heap.size, 1, none⟩ = some (.string ⟨s.toArray⟩)) ∧ Below W.heap.size W w')
              (first | exact KEEP.out _ (Below.drew (Below.refl _ _)) | exact KEEP.out _ HK.out)
              (first
              | (go_at_call 76; refine (FT.out _ (by first | exact HTW.out _ (Below.drew (Below.refl _ _)) | exact HTW.out _ HK.out)).mono ?_; rintro e wx ⟨rfl, hbk⟩; have HK := hid (show Below W.heap.size W wx from (by first | exact btr' HK.out hbk | exact btr' (Below.drew (Below.refl _ _)) hbk)); clear hbk))
            all_goals
              have hcc := (ABX.out.on HK.out).cell
              obtain ⟨hcc0, hcc1⟩ := hcc
              have HBW := hid (btr' HB.out (btr' AB.out HK.out))
              have BXW := hid (HBX.out.on (btr' AB.out HK.out))
              go_wp2_with (go_at_call 75; refine (FS.out _ (HL.out.on HBW.out)).mono ?_; rintro e wy ⟨rfl, hb⟩; have HBY := hid (btr' HBW.out hb); have BXY := hid (BXW.out.on hb); clear hb)
              go_roundw
              case rel => exact ⟨k + 1, sz + fl, by omega, by go_num, by first | rfl | (congr 1; omega), by omega, HSZ2, HFI2, HBY, BXY, HOK2⟩
              case measure => simp [RowKit.intOf]; omega
          · have hFE := hid (show firstE [] l = F by rw [HFI.out, HFD.out, if_neg (by rw [hF]; exact hF0), hF])
            have HE := hid (show encE kind l = F by rw [E1.out, hFE.out, if_neg hF0])
            have HE2 := hid (show encB kind l = [] by unfold encB; rw [HE.out, if_neg hF0])
            have hne : (F != 0) = true := by simpa using hF0
            clear hF hz HFD HFT hF0
            go_region_held3 (fun w' => (w'.cell? ⟨wr.heap.size, 0, none⟩ = some (.int .i64 z) ∧ w'.cell? ⟨wr.heap.size, 1, none⟩ = some (.string ⟨s.toArray⟩)) ∧ Below W.heap.size W w')
              (first | exact KEEP.out _ (Below.drew (Below.refl _ _)) | exact KEEP.out _ HK.out)
              (first
              | (go_at_call 76; refine (FT.out _ (by first | exact HTW.out _ (Below.drew (Below.refl _ _)) | exact HTW.out _ HK.out)).mono ?_; rintro e wx ⟨rfl, hbk⟩; have HK := hid (show Below W.heap.size W wx from (by first | exact btr' HK.out hbk | exact btr' (Below.drew (Below.refl _ _)) hbk)); clear hbk))
            all_goals
              go_wp2
              go_ret2
              rw [HE.out, HE2.out]
              exact ⟨_, rfl, own_nilB (btr' HB.out (btr' AB.out HK.out)), fun _ => rfl⟩
        · have hkl : k = l.length := by omega
          have HZ := hid (show sz = (bodyB kind l).length by
            have h := HSZ.out
            rw [List.take_of_length_le (by omega)] at h
            unfold bodyB
            rw [List.length_append, hf0E.out]; exact h)
          have HE0 := hid (show firstE [] l = 0 by
            have h := HFI.out
            rw [List.take_of_length_le (by omega), List.drop_eq_nil_of_le (by omega)] at h
            rw [h, firstE])
          have HOK2 := hid (show ∀ x ∈ l, TagOk x.1 ∧ ValOk x.2 by
            have h := HOK.out
            rwa [List.take_of_length_le (by omega)] at h)
          have hszb : sz ≤ 9007199254750000 := by omega
          have DC := hid (decimal_any sz (by omega) wr (HL.out.on HB.out))
          have LL := hid (lineB_len kind l)
          have hd20 : nDigits sz ≤ 20 := nDigits_le20 sz (by omega)
          have hdl := decDigits_length sz
          have AH := hid (show aheadB kind l = headB sz ++ [1] ++ (fieldB (35, kind) ++ l.flatMap fieldB) by unfold aheadB; rw [← HZ.out]; rfl)
          have hcat : (⟨#[56, 61, 66, 82, 83, 46, 49, 1, 57, 61]⟩ : ByteArray) ++ ⟨(decDigits sz).toArray⟩ = ⟨(headB sz).toArray⟩ := ba_append [56, 61, 66, 82, 83, 46, 49, 1, 57, 61] (decDigits sz)
          have hhl : (headB sz).length = 10 + nDigits sz := by unfold headB; simp [hdl]; omega
          rw [← HZ.out] at LL
          obtain ⟨nd, hnd⟩ : ∃ nd, nDigits sz = nd := ⟨_, rfl⟩
          obtain ⟨HH, hHH⟩ : ∃ H, headB sz = H := ⟨_, rfl⟩
          obtain ⟨D, hD⟩ : ∃ D, decDigits sz = D := ⟨_, rfl⟩
          rw [hnd] at LL hd20 hhl
          rw [hHH] at hcat hhl AH
          rw [hD] at DC hcat hdl
          have hDle : D.length ≤ 20 := by omega
          have hsz : (⟨HH.toArray⟩ : ByteArray).size = 10 + nd := by simp [ByteArray.size, hhl]
          clear HSZ HFI HOK hdl hnd hHH hD hkl
          by_cases hbig : 2048 < 10 + nd + 1 + sz + 7
          · have HE := hid (show encE kind l = 2 by rw [E1.out, if_pos HE0.out, if_pos (by rw [LL.out]; exact hbig)])
            have HE2 := hid (show encB kind l = [] by unfold encB; rw [HE.out]; rfl)
            have hb2 : (2048 : Int) < 10 + (nd : Int) + 1 + (sz : Int) + 7 := by omega
            go_wp2_with (go_at_call 51; refine DC.out.mono ?_; rintro e wx ⟨rfl, hbk⟩)
            go_ret2
            rw [HE.out, HE2.out]
            exact ⟨_, rfl, own_nilB (btr' HB.out hbk), fun _ => rfl⟩
          · have HE := hid (show encE kind l = 0 by rw [E1.out, if_pos HE0.out, if_neg (by rw [LL.out]; exact hbig)])
            have HE2 := hid (show encB kind l = lineB kind l by unfold encB; rw [HE.out]; rfl)
            have hb2 : ¬ ((2048 : Int) < 10 + (nd : Int) + 1 + (sz : Int) + 7) := by omega
            have hszs : sz ≤ 2048 := by omega
            have AF0 := hid (fun sv l w hO hv hL => appendfield_any w.heap.size w sv l 35 kind w (by omega) hv hO hL)
            have AFX := hid (fun (wz : World) sv l' hO (hv : l'.length + kind.length ≤ 140737488355000) hL => appendfield_any w.heap.size w sv l' 35 kind wz (by omega) hv hO hL)
            rw [show ((35 : Nat) : Int) = 35 from rfl] at AFX
            clear AF0
            go_wp2_with (first | (go_at_call 51; refine DC.out.mono ?_; rintro e wx ⟨rfl, hbk⟩; obtain ⟨wm, hmk, hOm, hKm⟩ := own_make (10 + nd + 1 + sz + 7) (10 + (nd : Int) + 1 + (sz : Int) + 7) (by omega) (by omega) (btr' HB.out hbk) (btr' HB.out hbk).size; have OM := hid hOm; have HBX1 := hid (hKm _ _ _ (HBX.out.on hbk)); clear hbk hOm hKm) | (at_builtin; refine own_text (by rfl) (.tmp 62) (.tmp 63) (by rfl) w.heap.size _ [] (by rfl) w OM.out HH (by rfl) (by simp; omega) ?_; intro v2 w2 hO2 hK2; have O2 := hid hO2; have B2 := hid (hK2 _ _ _ HBX1.out); clear hO2 hK2) | (at_builtin; refine own_byte (by rfl) (.tmp 65) (.tmp 66) (by rfl) w.heap.size v2 _ (by rfl) w w2 1 1 (by decide) O2.out (by rfl) (by simp; omega) ?_; intro v3 w3 hO3 hK3; have O3 := hid hO3; obtain ⟨hc30, hc31⟩ := (hK3 _ _ _ B2.out).cell; clear hO3 hK3) | (go_at_call 77; refine (AFX.out _ _ _ O3.out (by simp; omega) (HL.out.on O3.out.2.1)).mono ?_; rintro e w4 ⟨v4, rfl, hO4, hK4⟩; have O4 := hid hO4; clear hO4 hK4))
            have HFL := hid (show (l.flatMap fieldB).length ≤ 2048 by
              have h := HZ.out
              unfold bodyB at h
              rw [List.length_append] at h
              omega)
            have HHL := hid hhl
            clear hmk hcat hhl hsz hc30 hc31
            go_loopw [13, 73] (fun bv iv wr => ∃ k : Nat, k ≤ l.length ∧ iv = .int .i64 k ∧ Hid (Own w.heap.size w wr bv ([] ++ HH ++ [1] ++ fieldB (35, kind) ++ (l.take k).flatMap fieldB))) (fun _ iv _ => l.length - (RowKit.intOf iv).toNat)
            case atStart => exact ⟨0, Nat.zero_le _, rfl, hid (by simpa using O4.out)⟩
            case round =>
              obtain ⟨j, hj, rfl, HO⟩ := hrel
              by_cases hjl : j < l.length
              · obtain ⟨b, o, rfl, h0, h1⟩ := (HT.out.on HO.out.2.1) j hjl
                have i0 : (0 : Int) ≤ (j : Int) := by omega
                have i1 : (j : Int) < (l.length : Int) := by omega
                obtain ⟨z, s, hz⟩ : ∃ z s, l[j] = (z, s) := ⟨_, _, rfl⟩
                have HFT := hid (flat_take hjl)
                have hok := HOK2.out l[j] (List.getElem_mem hjl)
                rw [hz] at h0 h1 HFT hok
                simp only at h0 h1 hok
                obtain ⟨zn, rfl⟩ : ∃ zn : Nat, z = (zn : Int) := ⟨z.toNat, by have := hok.1.1; omega⟩
                have hzn : zn < 10000 := by have := hok.1.2.1; omega
                have hle : ((l.take (j + 1)).flatMap fieldB).length ≤ 2048 := by
                  refine Nat.le_trans ?_ HFL.out
                  conv => rhs; rw [← List.take_append_drop (j + 1) l, List.flatMap_append, List.length_append]
                  omega
                have hsum : ((l.take j).flatMap fieldB).length + s.length ≤ 2048 := by
                  rw [HFT.out, List.length_append, fieldB_len] at hle
                  simp only at hle
                  omega
                have AF := hid (fun wz sv l' hO (hv : l'.length + s.length ≤ 140737488355000) hL => appendfield_any w.heap.size w sv l' zn s wz hzn hv hO hL)
                have HOA := hid (HO.out.on (ball wr (.cells #[.int .i64 (zn : Int), .string ⟨s.toArray⟩] 76)))
                have HHl := hid (show HH.length ≤ 30 by have := HHL.out; omega)
                have hPX : ([] ++ HH ++ [1] ++ fieldB (35, kind) ++ (l.take j).flatMap fieldB).length + s.length ≤ 140737488355000 := by
                  simp only [List.length_append, List.length_nil, List.length_cons, hf0E.out]
                  have := HHl.out
                  omega
                have HPX := hid hPX
                clear hz hok hle hsum hPX
                go_wp2_with (go_at_call 77; refine (AF.out _ _ _ HOA.out HPX.out (HL.out.on HOA.out.2.1)).mono ?_; rintro e wy ⟨vy, rfl, hOy, hKy⟩; have OY := hid hOy; clear hOy hKy)
                go_roundw
                case rel => exact ⟨j + 1, by omega, by go_num, hid (by rw [HFT.out, ← List.append_assoc]; exact OY.out)⟩
                case measure => simp [RowKit.intOf]; omega
              · have HOA := hid (show Own w.heap.size w wr _ (aheadB kind l) by
                  have h := HO.out
                  rw [List.take_of_length_le (by omega)] at h
                  rw [AH.out]
                  simpa using h)
                obtain ⟨q', cap', rfl, hSb⟩ := HOA.out.form
                have hal : (aheadB kind l).length ≤ 2048 := by
                  have h := LL.out
                  unfold lineB at h
                  rw [List.length_append, trailB_len] at h
                  omega
                have TR := hid (trail_any (aheadB kind l) q' cap' wr (by omega) hSb (HL.out.on HOA.out.2.1))
                have LB := hid (show lineB kind l = aheadB kind l ++ trailB (aheadB kind l) from rfl)
                have htl := trailB_len (aheadB kind l)
                obtain ⟨AA, hAA⟩ : ∃ A, aheadB kind l = A := ⟨_, rfl⟩
                obtain ⟨TT, hTT⟩ : ∃ T, trailB (aheadB kind l) = T := ⟨_, rfl⟩
                rw [hTT] at TR LB htl
                rw [hAA] at TR LB HOA hal
                have hlA : (aheadB kind l).length = AA.length := by rw [hAA]
                rw [hlA]
                clear HO hSb hAA hTT hlA
                go_wp2_with (first | (go_at_call 78; refine TR.out.mono ?_; rintro e wy ⟨rfl, hb⟩; have OY := hid (HOA.out.on hb); clear hb) | (at_builtin; refine own_text (by rfl) (.tmp 81) (.tmp 83) (by rfl) w.heap.size _ AA (by rfl) w OY.out TT (by rfl) (by omega) ?_; intro vz wz hOz hKz; have OZ := hid hOz; clear hOz hKz))
                go_ret2
                rw [HE.out, HE2.out, LB.out]
                exact ⟨_, rfl, OZ.out, fun h => absurd rfl h⟩
  · have e : encE kind l = 3 := by unfold encE; rw [if_pos (by simpa using hkd)]
    have e2 : encB kind l = [] := by unfold encB; rw [e]; rfl
    rw [e, e2]
    rw [decide_eq_false hkd] at IK
    clear e e2
    go_enter Tryd.func52, Tryd.ntmps52
    go_wp2_with (go_at_call 74; refine IK.out.mono ?_; rintro e w1 ⟨rfl, rfl⟩)
    go_ret2
    exact ⟨_, rfl, own_nil _, fun _ => rfl⟩
end Go.Proofs.YtacdjioieclggaaDoor
namespace Go.Proofs.YtacdjioieclggaaDoor
open Go.RowKit Go.Deep Go.Lib Go.Shelf Go.Sort
set_option linter.unusedVariables false
set_option maxHeartbeats 1000000 in
set_option maxRecDepth 100000 in
/-- span.end. -/
theorem end_any (f t : Nat) (w : World) (ht : t < 4611686018427387904) :
    Calls Tryd.prog 68 #[.agg #[.int .i64 f, .int .i64 t]] w fun e w' => e = .returned (.int .i64 ((t : Int) + 7)) ∧ Below w.heap.size w w' := by
  go_enter Tryd.func68, Tryd.ntmps68
  go_wp2
  go_ret
  exact ⟨rfl, ball _ _⟩

/-- the one beginning of all lines. -/
def beg : List UInt8 := [56, 61, 66, 82, 83, 46, 49, 1, 57, 61]
theorem beg_len : beg.length = 10 := rfl
/-- how far bytes begin as they should, and what is wrong there. -/
def begE (b : List UInt8) : Nat → Nat → Nat × Int
  | _, 0 => (0, 0)
  | i, k + 1 => match b[i]? with
    | none => (i, 20)
    | some c => if some c = beg[i]? then begE b (i + 1) k else (i, 3)
theorem begE_none {b : List UInt8} {i k : Nat} (hk : i < k) (h : b.length ≤ i) : begE b i (k - i) = (i, 20) := by
  rw [show k - i = (k - i - 1) + 1 by omega]
  simp only [begE, List.getElem?_eq_none h]
theorem begE_some {b : List UInt8} {i k : Nat} (hk : i < k) (hb : i < b.length) (hi : i < beg.length) : begE b i (k - i) = if b[i] = beg[i] then begE b (i + 1) (k - (i + 1)) else (i, 3) := by
  rw [show k - i = (k - (i + 1)) + 1 by omega]
  simp only [begE, List.getElem?_eq_getElem hb, List.getElem?_eq_getElem hi, Option.some.injEq]
set_option maxHeartbeats 2000000 in
set_option maxRecDepth 100000 in
/-- text.readBeginning. -/
theorem beginning_any (l : List UInt8) (q : Option Addr) (cap : Nat) (w : World) (hl : l.length < 9223372036854775808) (hS : Sb w q l) :
    Calls Tryd.prog 79 #[.slice q l.length cap] w fun e w' => e = .returned (.tuple #[.int .i64 ((begE l 0 10).1 : Nat), .int .i64 (begE l 0 10).2]) ∧ Below w.heap.size w w' := by
  have HS := hid hS
  clear hS
  go_enter Tryd.func79, Tryd.ntmps79
  go_wp2_with fail
  go_loopw [5] (fun iv wr => ∃ k : Nat, k ≤ 10 ∧ k ≤ l.length ∧ iv = .int .i64 k ∧ Hid (Below w.heap.size w wr) ∧ Hid (begE l 0 10 = begE l k (10 - k))) (fun iv _ => 10 - (RowKit.intOf iv).toNat)
  case atStart => exact ⟨0, by omega, Nat.zero_le _, rfl, Below.refl _ _, hid rfl⟩
  case round =>
    obtain ⟨k, hk, hkl, rfl, HB, HE⟩ := hrel
    by_cases hlt : k < 10
    · have i3 : (k : Int) < 10 := by omega
      by_cases hend : k = l.length
      · have HE2 := hid (HE.out.trans (begE_none hlt (by omega)))
        have f1 : ((k : Int) == (l.length : Int)) = true := by simp; omega
        clear HE hend
        go_wp2
        go_ret2
        exact ⟨by rw [HE2.out]; rfl, HB.out⟩
      · obtain ⟨b, o, rfl, h0⟩ := (HS.out.on HB.out) k (by omega)
        obtain ⟨c, hc⟩ : ∃ c, l[k]'(by omega) = c := ⟨_, rfl⟩
        rw [hc] at h0
        have he := HE.out.trans (begE_some hlt (by omega) (by rw [beg_len]; omega))
        rw [hc] at he
        have f1 : ((k : Int) == (l.length : Int)) = false := by simp; omega
        have i0 : (0 : Int) ≤ (k : Int) := by omega
        have i1 : (k : Int) < (l.length : Int) := by omega
        obtain ⟨d, hd⟩ : ∃ d, beg[k]'(by rw [beg_len]; omega) = d := ⟨_, rfl⟩
        have hx : ∀ h : k < (⟨#[56, 61, 66, 82, 83, 46, 49, 1, 57, 61]⟩ : ByteArray).size, (⟨#[56, 61, 66, 82, 83, 46, 49, 1, 57, 61]⟩ : ByteArray)[k] = d := fun h => (ba_at beg k (by rw [beg_len]; omega) h).trans hd
        rw [hd] at he
        have hsz : (⟨#[56, 61, 66, 82, 83, 46, 49, 1, 57, 61]⟩ : ByteArray).size = 10 := rfl
        by_cases hcd : c = d
        · subst hcd
          rw [if_pos rfl] at he
          have HE2 := hid he
          clear he HE hc hd
          go_wp2
          go_quiet (fail)
          go_wp2
          go_roundw
          case rel => exact ⟨k + 1, by omega, by omega, by go_num, hid (HB.out.trans ⟨rfl, rfl, rfl, Nat.le_refl _, fun _ _ => rfl⟩), HE2⟩
          case measure => simp [RowKit.intOf]; omega
        · rw [if_neg hcd] at he
          have HE2 := hid he
          have hne : ((c.toNat : Int) != (d.toNat : Int)) = true := by
            simp
            intro e
            exact hcd (UInt8.toNat_inj.1 (by omega))
          clear he HE hc hd
          go_wp2
          go_quiet (fail)
          go_wp2
          go_ret2
          exact ⟨by rw [HE2.out]; rfl, HB.out.trans ⟨rfl, rfl, rfl, Nat.le_refl _, fun _ _ => rfl⟩⟩
    · obtain rfl : k = 10 := by omega
      have HE2 := hid (show begE l 0 10 = (0, 0) from HE.out.trans rfl)
      go_wp2
      go_ret2
      exact ⟨by rw [HE2.out]; rfl, HB.out⟩

/-- how many decimal digits bytes begin with, five at most. -/
def digN (b : List UInt8) : Nat → Nat → Nat
  | i, 0 => i
  | i, k + 1 => match b[i]? with
    | none => i
    | some c => if Dig c then digN b (i + 1) k else i
theorem digN_none {b : List UInt8} {i k : Nat} (hk : i < k) (h : b.length ≤ i) : digN b i (k - i) = i := by
  rw [show k - i = (k - i - 1) + 1 by omega]
  simp only [digN, List.getElem?_eq_none h]
theorem digN_some {b : List UInt8} {i k : Nat} (hk : i < k) (hb : i < b.length) : digN b i (k - i) = if Dig b[i] then digN b (i + 1) (k - (i + 1)) else i := by
  rw [show k - i = (k - (i + 1)) + 1 by omega]
  simp only [digN, List.getElem?_eq_getElem hb]
set_option maxHeartbeats 2000000 in
set_option maxRecDepth 100000 in
/-- text.digits. -/
theorem digits_any (l : List UInt8) (q : Option Addr) (cap : Nat) (w : World) (hl : l.length < 9223372036854775808) (hS : Sb w q l) :
    Calls Tryd.prog 90 #[.slice q l.length cap] w fun e w' => e = .returned (.int .i64 (digN l 0 5 : Nat)) ∧ w' = w := by
  have HS := hid hS
  clear hS
  go_enter Tryd.func90, Tryd.ntmps90
  go_wp2_with fail
  go_loopw [4] (fun iv wr => ∃ k : Nat, k ≤ 5 ∧ k ≤ l.length ∧ iv = .int .i64 k ∧ wr = w ∧ Hid (digN l 0 5 = digN l k (5 - k))) (fun iv _ => 5 - (RowKit.intOf iv).toNat)
  case atStart => exact ⟨0, by omega, Nat.zero_le _, rfl, rfl, hid rfl⟩
  case round =>
    obtain ⟨k, hk, hkl, rfl, rfl, HE⟩ := hrel
    by_cases hlt : k < 5
    · have i3 : (k : Int) < 5 := by omega
      by_cases hend : k = l.length
      · have HE2 := hid (HE.out.trans (digN_none hlt (by omega)))
        have f1 : ((k : Int) == (l.length : Int)) = true := by simp; omega
        clear HE hend
        go_wp2
        go_ret
        exact ⟨by rw [HE2.out]; rfl, rfl⟩
      · obtain ⟨b, o, rfl, h0⟩ := HS.out k (by omega)
        obtain ⟨c, hc⟩ : ∃ c, l[k]'(by omega) = c := ⟨_, rfl⟩
        rw [hc] at h0
        have he := HE.out.trans (digN_some hlt (by omega))
        rw [hc] at he
        have f1 : ((k : Int) == (l.length : Int)) = false := by simp; omega
        have i0 : (0 : Int) ≤ (k : Int) := by omega
        have i1 : (k : Int) < (l.length : Int) := by omega
        have ID := hid (isdigit_any c)
        by_cases hd : Dig c
        · rw [if_pos hd] at he
          rw [decide_eq_true hd] at ID
          have HE2 := hid he
          clear he HE hc hd
          go_wp2_with (go_at_call 87; refine (ID.out _).mono ?_; rintro e w1 ⟨rfl, rfl⟩)
          go_roundw
          case rel => exact ⟨k + 1, by omega, by omega, by go_num, trivial, HE2⟩
          case measure => simp [RowKit.intOf]; omega
        · rw [if_neg hd] at he
          rw [decide_eq_false hd] at ID
          have HE2 := hid he
          clear he HE hc hd
          go_wp2_with (go_at_call 87; refine (ID.out _).mono ?_; rintro e w1 ⟨rfl, rfl⟩)
          go_ret
          exact ⟨by rw [HE2.out]; rfl, rfl⟩
    · obtain rfl : k = 5 := by omega
      have HE2 := hid (show digN l 0 5 = 5 from HE.out.trans rfl)
      go_wp2
      go_ret
      exact ⟨by rw [HE2.out]; rfl, rfl⟩
end Go.Proofs.YtacdjioieclggaaDoor
namespace Go.Proofs.YtacdjioieclggaaDoor
open Go.RowKit Go.Deep Go.Lib Go.Shelf Go.Sort
set_option linter.unusedVariables false
theorem info62 : (Tryd.prog.info? 117).map (·.size) = some 2 := by kernel_rfl
theorem res62 (fn : Func) (p u v : Tmp) (h : fn.results = #[.cell p 117, .tmp u, .tmp v]) (tmps : Array Value) (w : World) (g : Nat) (a b eu ev : Value)
    (hp : tmps.getD p undef = .pointer (some ⟨g, 0, none⟩)) (hu : tmps.getD u undef = eu) (hv : tmps.getD v undef = ev) (h0 : w.cell? ⟨g, 0, none⟩ = some a) (h1 : w.cell? ⟨g, 1, none⟩ = some b) :
    (results fn tmps).run Tryd.prog w = .ok (.tuple #[.agg #[a, b], eu, ev]) w := by
  have hp' : tmps[p]?.getD undef = .pointer (some ⟨g, 0, none⟩) := by simpa using hp
  have hu' : tmps[u]?.getD undef = eu := by simpa using hu
  have hv' : tmps[v]?.getD undef = ev := by simpa using hv
  have hr : w.rangeAt g 0 [a, b] := by
    intro j x hj
    match j, hj with
    | 0, hj => simp at hj; subst hj; simpa using h0
    | 1, hj => simp at hj; subst hj; simpa using h1
  simp [results, h, hp', hu', hv', asAddr, run_loadVar_mid w g 0 117 [a, b] _ hr Tryd.underlying117 rfl info62]
theorem digN_le (b : List UInt8) : ∀ (k i : Nat), i ≤ b.length → i ≤ digN b i k ∧ digN b i k ≤ i + k ∧ digN b i k ≤ b.length
  | 0, i, h => by simp only [digN]; omega
  | k + 1, i, h => by
    simp only [digN]
    split
    · omega
    · rename_i c hc
      obtain ⟨hlt, _⟩ := List.getElem?_eq_some_iff.1 hc
      split
      · have := digN_le b k (i + 1) (by omega)
        omega
      · omega
theorem Sb.drop {w : World} {b o : Nat} {l : List UInt8} (h : Sb w (some ⟨b, o, none⟩) l) (k : Nat) : Sb w (some ⟨b, o + k, none⟩) (l.drop k) := by
  intro i hi
  rw [List.length_drop] at hi
  obtain ⟨b', o', e, h0⟩ := h (k + i) (by omega)
  obtain ⟨rfl, rfl⟩ : b = b' ∧ o = o' := by simpa using e
  exact ⟨b, o + k, rfl, by rw [Nat.add_assoc, List.getElem_drop]; exact h0⟩
theorem Sb.take {w : World} {q : Option Addr} {l : List UInt8} (h : Sb w q l) (k : Nat) : Sb w q (l.take k) := by
  intro i hi
  have hi' : i < l.length := by simp at hi; omega
  obtain ⟨b, o, e, h0⟩ := h i hi'
  exact ⟨b, o, e, by simpa using h0⟩
theorem conv_sb {w : World} {b o : Nat} {l : List UInt8} (h : Sb w (some ⟨b, o, none⟩) l) (c : Nat) : (convert 31 9 (.slice (some ⟨b, o, none⟩) l.length c)).run Tryd.prog w = .ok (.string ⟨l.toArray⟩) w :=
  run_convert_bytes_back (P := Tryd.prog) w 31 9 5 ⟨b, o, none⟩ c l Tryd.underlying31 Tryd.underlying5 Tryd.underlying9 (fun j hj => by
    obtain ⟨b', o', e, h0⟩ := h j hj
    obtain ⟨rfl, rfl⟩ : b = b' ∧ o = o' := by simpa using e
    rw [Addr.add_mid]; exact h0)
theorem Sb.at {w : World} {b o : Nat} {l : List UInt8} (h : Sb w (some ⟨b, o, none⟩) l) (k : Nat) (hk : k < l.length) : w.cell? ⟨b, o + k, none⟩ = some (.int .u8 ((l[k]'hk).toNat : Int)) := by
  obtain ⟨b', o', e, h0⟩ := h k hk
  obtain ⟨rfl, rfl⟩ : b = b' ∧ o = o' := by simpa using e
  exact h0

/-- where the body would stand; with an error its place. -/
def lenE (l : List UInt8) : (Nat × Nat) × Nat × Int :=
  if 10 + digN (l.drop 10) 0 5 = l.length then ((0, 0), 10 + digN (l.drop 10) 0 5, 20)
  else match num ((l.drop 10).take (digN (l.drop 10) 0 5)) with
    | none => ((0, 0), 10, 3)
    | some s => if digN (l.drop 10) 0 5 = 5 ∨ l[10 + digN (l.drop 10) 0 5]? ≠ some 1 then ((0, 0), 10, 3)
      else if 2048 < 10 + digN (l.drop 10) 0 5 + 1 + s + 7 then ((0, 0), 10, 2)
      else ((10 + digN (l.drop 10) 0 5 + 1, 10 + digN (l.drop 10) 0 5 + 1 + s), 0, 0)
def lenV (x : (Nat × Nat) × Nat × Int) : Value := .tuple #[.agg #[.int .i64 x.1.1, .int .i64 x.1.2], .int .i64 x.2.1, .int .i64 x.2.2]

theorem set2 {w : World} {g : Nat} {x y a b : Value} (h0 : w.cell? ⟨g, 0, none⟩ = some x) (h1 : w.cell? ⟨g, 1, none⟩ = some y) :
    ((w.setCell ⟨g, 0, none⟩ a).setCell ⟨g, 1, none⟩ b).cell? ⟨g, 0, none⟩ = some a ∧ ((w.setCell ⟨g, 0, none⟩ a).setCell ⟨g, 1, none⟩ b).cell? ⟨g, 1, none⟩ = some b := by
  refine ⟨?_, ?_⟩
  · rw [World.cell?_setCell_other _ _ _ _ (by simp)]
    exact World.cell?_setCell_same _ _ _ h0
  · exact World.cell?_setCell_same _ _ _ (by rw [World.cell?_setCell_other _ _ _ _ (by simp)]; exact h1)
theorem num_lt5 (l : List UInt8) (s : Nat) (h : num l = some s) (hl : l.length ≤ 5) : s < 100000 := by
  obtain ⟨e, _⟩ := num_some l s h
  have h1 := lt_pow_nDigits s
  rw [← decDigits_length, e] at h1
  have h2 : 10 ^ l.length ≤ 10 ^ 5 := Nat.pow_le_pow_right (by decide) hl
  omega
set_option maxHeartbeats 1000000 in
set_option maxRecDepth 100000 in
theorem length_none (l : List UInt8) (b o : Nat) (w : World) (h10 : l.length = 10) :
    Calls Tryd.prog 80 #[.slice (some ⟨b, o, none⟩) l.length 10] w fun e w' => e = .returned (lenV (lenE l)) ∧ Below w.heap.size w w' := by
  have hd0 : l.drop 10 = [] := List.drop_eq_nil_of_le (by omega)
  have hE : lenE l = ((0, 0), 10, 20) := by
    unfold lenE
    rw [hd0, show digN [] 0 5 = 0 from rfl, if_pos (by omega)]
  rw [hE]
  have DG := hid (fun W => digits_any [] (some ⟨b, o, none⟩) 0 W (by decide) (fun i hi => by simp at hi))
  rw [show digN [] 0 5 = 0 from rfl] at DG
  rw [h10]
  clear hE hd0 h10
  go_enter Tryd.func80, Tryd.ntmps80
  go_wp2_with (go_at_call 90; refine (DG.out _).mono ?_; rintro e w1 ⟨rfl, rfl⟩)
  refine bodyPost_ret (res62 Tryd.f80 2 3 4 Tryd.results80 _ _ w.heap.size (.int .i64 0) (.int .i64 0) _ _ (by rfl) (by rfl) (by rfl) (by simp) (by simp)) rfl ⟨rfl, ?_⟩
  repeat (first | exact ball _ _ | apply Below.setCell)
  all_goals simp

set_option maxHeartbeats 4000000 in
set_option maxRecDepth 100000 in
theorem length_big (l : List UInt8) (b o : Nat) (cap : Nat) (w : World) (hl : l.length < 4611686018427387904) (h10 : 10 ≤ l.length) (hcap : l.length ≤ cap) (hcm : cap < 9223372036854775808) (h11 : 10 < cap) (hS : Sb w (some ⟨b, o, none⟩) l) (hL : LayE w) :
    Calls Tryd.prog 80 #[.slice (some ⟨b, o, none⟩) l.length cap] w fun e w' => e = .returned (lenV (lenE l)) ∧ Below w.heap.size w w' := by
  obtain ⟨W, hW⟩ : ∃ W, w.alloc (.cells #[.int .i64 0, .int .i64 0] 117) = W := ⟨_, rfl⟩
  have HBW := hid (show Below w.heap.size w W from hW ▸ ball w _)
  have HSW := hid (hS.on HBW.out)
  have HLW := hid (hL.on HBW.out)
  have hWs : W.heap.size = w.heap.size + 1 := by subst hW; simp
  have hdl : (l.drop 10).length = l.length - 10 := List.length_drop ..
  have DG := hid (digits_any (l.drop 10) (some ⟨b, o + 10, none⟩) (cap - 10) W (by omega) (HSW.out.drop 10))
  rw [hdl] at DG
  obtain ⟨_, hd5, hdn⟩ := digN_le (l.drop 10) 5 0 (by omega)
  rw [hdl] at hdn
  obtain ⟨d, hd⟩ : ∃ d, digN (l.drop 10) 0 5 = d := ⟨_, rfl⟩
  obtain ⟨R, hR⟩ : ∃ R, lenE l = R := ⟨_, rfl⟩
  have HE := hid hR
  unfold lenE at HE
  rw [hd] at DG hd5 hdn HE
  rw [hR]
  have hc0 : W.cell? ⟨w.heap.size, 0, none⟩ = some (.int .i64 0) := by subst hW; exact World.cell?_alloc_new _ _ _ _
  have hc1 : W.cell? ⟨w.heap.size, 1, none⟩ = some (.int .i64 0) := by subst hW; exact World.cell?_alloc_new _ _ _ _
  have hf0 : W.frozen? ⟨w.heap.size, 0, none⟩ = false := by subst hW; exact World.frozen?_alloc_new _ _ _ _
  have hf1 : W.frozen? ⟨w.heap.size, 1, none⟩ = false := by subst hW; exact World.frozen?_alloc_new _ _ _ _
  have j0 : (10 : Int) ≤ (l.length : Int) := by omega
  have j1 : (l.length : Int) ≤ (cap : Int) := by omega
  have j2 : ¬ (cap = 10) := by omega
  have hlt : ((l.drop 10).take d).length = d := by simp; omega
  have CV := hid (conv_sb ((HSW.out.drop 10).take d) (cap - 10))
  have NB := hid (number_any ((l.drop 10).take d) (by omega) W HLW.out)
  rw [hlt] at CV
  obtain ⟨DT, hDT⟩ : ∃ x, (l.drop 10).take d = x := ⟨_, rfl⟩
  rw [hDT] at CV NB HE hlt
  have HWs := hid hWs
  have HWW := hid hW
  clear hS hL hdl hd hR hDT hWs
  by_cases hst : 10 + d = l.length
  · rw [if_pos hst] at HE
    have f1 : (10 + (d : Int) == (l.length : Int)) = true := by simp; omega
    obtain rfl := HE.out
    have HST := hid hst
    clear HE hst hlt
    go_enter Tryd.func80, Tryd.ntmps80
    go_wp2_with (go_at_call 90; refine DG.out.mono ?_; rintro e w1 ⟨rfl, rfl⟩)
    refine bodyPost_ret (res62 Tryd.f80 2 3 4 Tryd.results80 _ _ w.heap.size (.int .i64 0) (.int .i64 0) _ _ (by rfl) (by rfl) (by rfl) ?c0 ?c1) rfl ⟨rfl, ?bel⟩
    case c0 => exact (set2 hc0 hc1).1
    case c1 => exact (set2 hc0 hc1).2
    case bel =>
      repeat (first | exact HBW.out | apply Below.setCell)
      all_goals simp
  · rw [if_neg hst] at HE
    have f1 : (10 + (d : Int) == (l.length : Int)) = false := by simp; omega
    have hsl : 10 + d < l.length := by omega
    have j3 : (10 : Int) ≤ 10 + (d : Int) := by omega
    have j4 : 10 + (d : Int) ≤ (cap : Int) := by omega
    have j5 : (0 : Int) ≤ 10 + (d : Int) := by omega
    have j6 : 10 + (d : Int) < (l.length : Int) := by omega
    have HC := hid (HSW.out.at (10 + d) hsl)
    have HG := hid (List.getElem?_eq_getElem hsl)
    obtain ⟨c, hc⟩ : ∃ c, l[10 + d] = c := ⟨_, rfl⟩
    rw [hc] at HC HG
    rw [HG.out] at HE
    cases hn : num DT with
    | none =>
      rw [hn] at HE NB
      obtain rfl := HE.out
      simp only [Option.getD_none, Option.isSome_none] at NB
      have cv := CV.out
      clear HE hst hlt hc hn
      go_enter Tryd.func80, Tryd.ntmps80
      go_wp2_with (first | (go_at_call 90; refine DG.out.mono ?_; rintro e w1 ⟨rfl, rfl⟩) | (go_at_call 85; refine NB.out.mono ?_; rintro e w2 ⟨rfl, hb⟩; have HB2 := hid (btr' HBW.out hb); have q0 := (hb.cell (by have := HWs.out; simp; omega)).trans hc0; have q1 := (hb.cell (by have := HWs.out; simp; omega)).trans hc1; have r0 := (hb.frozen (by have := HWs.out; simp; omega)).trans hf0; have r1 := (hb.frozen (by have := HWs.out; simp; omega)).trans hf1; clear hb))
      refine bodyPost_ret (res62 Tryd.f80 2 3 4 Tryd.results80 _ _ w.heap.size (.int .i64 0) (.int .i64 0) _ _ (by rfl) (by rfl) (by rfl) ?c0 ?c1) rfl ⟨rfl, ?bel⟩
      case c0 => exact (set2 q0 q1).1
      case c1 => exact (set2 q0 q1).2
      case bel =>
        repeat (first | exact HB2.out | apply Below.setCell)
        all_goals simp
    | some s =>
      rw [hn] at HE NB
      simp only [Option.getD_some, Option.isSome_some] at NB
      have hs5 := num_lt5 DT s hn (by omega)
      have cv := CV.out
      clear hst hlt hc hn
      simp only at HE
      by_cases hd : d = 5
      · rw [if_pos (Or.inl hd)] at HE
        obtain rfl := HE.out
        subst hd
        clear HE
        go_enter Tryd.func80, Tryd.ntmps80
        go_wp2_with (first | (go_at_call 90; refine DG.out.mono ?_; rintro e w1 ⟨rfl, rfl⟩) | (go_at_call 85; refine NB.out.mono ?_; rintro e w2 ⟨rfl, hb⟩; have HB2 := hid (btr' HBW.out hb); have q0 := (hb.cell (by have := HWs.out; simp; omega)).trans hc0; have q1 := (hb.cell (by have := HWs.out; simp; omega)).trans hc1; have r0 := (hb.frozen (by have := HWs.out; simp; omega)).trans hf0; have r1 := (hb.frozen (by have := HWs.out; simp; omega)).trans hf1; have q2 := (hb.cell (cell_lt HC.out)).trans HC.out; have HL2 := hid (HLW.out.on hb); clear hb))
        refine bodyPost_ret (res62 Tryd.f80 2 3 4 Tryd.results80 _ _ w.heap.size (.int .i64 0) (.int .i64 0) _ _ (by rfl) (by rfl) (by rfl) ?c0 ?c1) rfl ⟨rfl, ?bel⟩
        case c0 => exact (set2 q0 q1).1
        case c1 => exact (set2 q0 q1).2
        case bel =>
          repeat (first | exact HB2.out | apply Below.setCell)
          all_goals simp
      · have g1 : ((d : Int) == 5) = false := by simp; omega
        have g2 : (10 + (d : Int) - 10 == 5) = false := by simp; omega
        by_cases hc1x : c = 1
        · rw [if_neg (by rintro (h | h); exact hd h; exact h (by rw [hc1x]))] at HE
          subst hc1x
          have EN := hid (fun w' => end_any (10 + d + 1) (10 + d + 1 + s) w' (by omega))
          rw [show ((10 + d + 1 : Nat) : Int) = 10 + (d : Int) + 1 by omega, show ((10 + d + 1 + s : Nat) : Int) = 10 + (d : Int) + 1 + (s : Int) by omega] at EN
          have hws : IntKind.i64.wrap (s : Int) = (s : Int) := by rw [IntKind.wrap_i64]; omega
          by_cases hbig : 2048 < 10 + d + 1 + s + 7
          · rw [if_pos hbig] at HE
            obtain rfl := HE.out
            have hb2 : (2048 : Int) < 10 + (d : Int) + 1 + (s : Int) + 7 := by omega
            clear HE hd
            go_enter Tryd.func80, Tryd.ntmps80
            go_wp2_with (first | (go_at_call 90; refine DG.out.mono ?_; rintro e w1 ⟨rfl, rfl⟩) | (go_at_call 85; refine NB.out.mono ?_; rintro e w2 ⟨rfl, hb⟩; have HB2 := hid (btr' HBW.out hb); have q0 := (hb.cell (by have := HWs.out; simp; omega)).trans hc0; have q1 := (hb.cell (by have := HWs.out; simp; omega)).trans hc1; have r0 := (hb.frozen (by have := HWs.out; simp; omega)).trans hf0; have r1 := (hb.frozen (by have := HWs.out; simp; omega)).trans hf1; have q2 := (hb.cell (cell_lt HC.out)).trans HC.out; have HL2 := hid (HLW.out.on hb); clear hb) | (go_at_call 68; refine (EN.out _).mono ?_; rintro e w3 ⟨rfl, hb⟩; have hb' := btr' (ball w2 _) hb; have HB3 := hid (btr' HB2.out hb'); have p0 := (hb'.cell (cell_lt q0)).trans q0; have p1 := (hb'.cell (cell_lt q1)).trans q1; have t0 := (hb'.frozen (cell_lt q0)).trans r0; have t1 := (hb'.frozen (cell_lt q1)).trans r1; have b0 := cell_new 0 hb rfl; have b1 := cell_new 1 hb rfl; clear hb hb'))
            refine bodyPost_ret (res62 Tryd.f80 2 3 4 Tryd.results80 _ _ w.heap.size (.int .i64 0) (.int .i64 0) _ _ (by rfl) (by rfl) (by rfl) ?c0 ?c1) rfl ⟨rfl, ?bel⟩
            case c0 => exact (set2 p0 p1).1
            case c1 => exact (set2 p0 p1).2
            case bel =>
              repeat (first | exact HB3.out | apply Below.setCell)
              all_goals simp
          · rw [if_neg hbig] at HE
            obtain rfl := HE.out
            have hb2 : ¬ ((2048 : Int) < 10 + (d : Int) + 1 + (s : Int) + 7) := by omega
            clear HE hd
            go_enter Tryd.func80, Tryd.ntmps80
            go_wp2_with (first | (go_at_call 90; refine DG.out.mono ?_; rintro e w1 ⟨rfl, rfl⟩) | (go_at_call 85; refine NB.out.mono ?_; rintro e w2 ⟨rfl, hb⟩; have HB2 := hid (btr' HBW.out hb); have q0 := (hb.cell (by have := HWs.out; simp; omega)).trans hc0; have q1 := (hb.cell (by have := HWs.out; simp; omega)).trans hc1; have r0 := (hb.frozen (by have := HWs.out; simp; omega)).trans hf0; have r1 := (hb.frozen (by have := HWs.out; simp; omega)).trans hf1; have q2 := (hb.cell (cell_lt HC.out)).trans HC.out; have HL2 := hid (HLW.out.on hb); clear hb) | (go_at_call 68; refine (EN.out _).mono ?_; rintro e w3 ⟨rfl, hb⟩; have hb' := btr' (ball w2 _) hb; have HB3 := hid (btr' HB2.out hb'); have p0 := (hb'.cell (cell_lt q0)).trans q0; have p1 := (hb'.cell (cell_lt q1)).trans q1; have t0 := (hb'.frozen (cell_lt q0)).trans r0; have t1 := (hb'.frozen (cell_lt q1)).trans r1; have b0 := cell_new 0 hb rfl; have b1 := cell_new 1 hb rfl; clear hb hb'))
            refine bodyPost_ret (res62 Tryd.f80 2 3 4 Tryd.results80 _ _ w.heap.size (.int .i64 (10 + (d : Int) + 1)) (.int .i64 (10 + (d : Int) + 1 + (s : Int))) _ _ (by rfl) (by rfl) (by rfl) ?c0 ?c1) rfl ⟨by simp [lenV], ?bel⟩
            case c0 => exact (set2 p0 p1).1
            case c1 => exact (set2 p0 p1).2
            case bel =>
              repeat (first | exact HB3.out | apply Below.setCell)
              all_goals simp
        · rw [if_pos (Or.inr (by simpa using hc1x))] at HE
          obtain rfl := HE.out
          have hne : ((c.toNat : Int) != 1) = true := by
            simp
            intro e
            have e2 : c.toNat = 1 := by omega
            exact hc1x (UInt8.toNat_inj.1 (by simpa using e2))
          clear HE hd hc1x
          go_enter Tryd.func80, Tryd.ntmps80
          go_wp2_with (first | (go_at_call 90; refine DG.out.mono ?_; rintro e w1 ⟨rfl, rfl⟩) | (go_at_call 85; refine NB.out.mono ?_; rintro e w2 ⟨rfl, hb⟩; have HB2 := hid (btr' HBW.out hb); have q0 := (hb.cell (by have := HWs.out; simp; omega)).trans hc0; have q1 := (hb.cell (by have := HWs.out; simp; omega)).trans hc1; have r0 := (hb.frozen (by have := HWs.out; simp; omega)).trans hf0; have r1 := (hb.frozen (by have := HWs.out; simp; omega)).trans hf1; have q2 := (hb.cell (cell_lt HC.out)).trans HC.out; have HL2 := hid (HLW.out.on hb); clear hb))
          refine bodyPost_ret (res62 Tryd.f80 2 3 4 Tryd.results80 _ _ w.heap.size (.int .i64 0) (.int .i64 0) _ _ (by rfl) (by rfl) (by rfl) ?c0 ?c1) rfl ⟨rfl, ?bel⟩
          case c0 => exact (set2 q0 q1).1
          case c1 => exact (set2 q0 q1).2
          case bel =>
            repeat (first | exact HB2.out | apply Below.setCell)
            all_goals simp

/-- text.readLength. -/
theorem length_any (l : List UInt8) (b o : Nat) (cap : Nat) (w : World) (hl : l.length < 4611686018427387904) (h10 : 10 ≤ l.length) (hcap : l.length ≤ cap) (hcm : cap < 9223372036854775808) (hS : Sb w (some ⟨b, o, none⟩) l) (hL : LayE w) :
    Calls Tryd.prog 80 #[.slice (some ⟨b, o, none⟩) l.length cap] w fun e w' => e = .returned (lenV (lenE l)) ∧ Below w.heap.size w w' := by
  by_cases h : cap = 10
  · subst h
    exact length_none l b o w (by omega)
  · exact length_big l b o cap w hl h10 hcap hcm (by omega) hS hL
end Go.Proofs.YtacdjioieclggaaDoor
