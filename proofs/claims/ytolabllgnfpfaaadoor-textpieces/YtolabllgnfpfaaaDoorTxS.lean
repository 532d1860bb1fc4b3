/-
  The document's Kind, isTag, there, isValue, field, three.
-/
import Derived.Test.YtolabllgnfpfaaaDoorTxR
namespace Go.Proofs.YtolabllgnfpfaaaDoor
open Go.RowKit Go.Deep Go.Lib Go.Shelf Go.Sort
set_option linter.unusedVariables false

set_option maxHeartbeats 4000000 in
set_option maxRecDepth 100000 in
/-- the document's Kind. -/
theorem rkind_any (l : List UInt8) (w : World) (hl : l.length < 9223372036854775808) :
    Calls Tryd.prog 48 #[.string ⟨l.toArray⟩] w fun e w' => e = .returned (.bool (decide (KindOk l))) ∧ w' = w := by
  go_enter Tryd.func48, Tryd.ntmps48
  go_wp2_with fail
  go_loopw [3] (fun iv wr => ∃ k : Nat, k ≤ l.length ∧ iv = .int .i64 k ∧ wr = w ∧ Hid (∀ c ∈ l.take k, Al c)) (fun iv _ => l.length - (RowKit.intOf iv).toNat)
  case atStart => exact ⟨0, Nat.zero_le _, rfl, rfl, fun x hx => by simp at hx⟩
  case round =>
    obtain ⟨k, hk, rfl, rfl, HN⟩ := hrel
    by_cases hlt : k < l.length
    · obtain ⟨c, hc⟩ : ∃ c, l[k] = c := ⟨_, rfl⟩
      have hx : ∀ h : k < (⟨l.toArray⟩ : ByteArray).size, (⟨l.toArray⟩ : ByteArray)[k] = c := fun h => by rw [ba_at l k hlt h, hc]
      have i0 : (0 : Int) ≤ (k : Int) := by omega
      have i1 : (k : Int) < (l.length : Int) := by omega
      have hc256 : c.toNat < 256 := c.toNat_lt
      have HC := hid hc
      clear hc
      by_cases ha : Al c
      · have HN2 := hid (take_all hlt HN.out (by rw [HC.out]; exact ha))
        rcases ha with ha | ha | ha
        · unfold Dig at ha
          have u1 : (c.toNat : Int) < 65 := by omega
          have u2 : (c.toNat : Int) < 97 := by omega
          have u3 : ¬ ((c.toNat : Int) < 48) := by omega
          have u4 : ¬ ((57 : Int) < (c.toNat : Int)) := by omega
          clear ha
          go_wp2
          go_roundw
          case rel => exact ⟨k + 1, by omega, by go_num, trivial, HN2⟩
          case measure => simp [RowKit.intOf]; omega
        · unfold Up at ha
          have u1 : ¬ ((c.toNat : Int) < 65) := by omega
          have u2 : ¬ ((90 : Int) < (c.toNat : Int)) := by omega
          clear ha
          go_wp2
          go_roundw
          case rel => exact ⟨k + 1, by omega, by go_num, trivial, HN2⟩
          case measure => simp [RowKit.intOf]; omega
        · unfold Lo at ha
          have u1 : ¬ ((c.toNat : Int) < 65) := by omega
          have u2 : (90 : Int) < (c.toNat : Int) := by omega
          have u3 : ¬ ((c.toNat : Int) < 97) := by omega
          have u4 : ¬ ((122 : Int) < (c.toNat : Int)) := by omega
          clear ha
          go_wp2
          go_roundw
          case rel => exact ⟨k + 1, by omega, by go_num, trivial, HN2⟩
          case measure => simp [RowKit.intOf]; omega
      · have HF := hid (show decide (KindOk l) = false from decide_eq_false (fun h => ha (h.2 c (by rw [← HC.out]; exact List.getElem_mem hlt))))
        have h4 : (c.toNat : Int) < 48 ∨ (57 < (c.toNat : Int) ∧ (c.toNat : Int) < 65) ∨ (90 < (c.toNat : Int) ∧ (c.toNat : Int) < 97) ∨ 122 < (c.toNat : Int) := by unfold Al Dig Up Lo at ha; omega
        clear ha
        rcases h4 with h | h | h | h
        · have u1 : (c.toNat : Int) < 65 := by omega
          have u2 : (c.toNat : Int) < 97 := by omega
          go_wp2
          go_ret
          exact ⟨by rw [HF.out]; rfl, rfl⟩
        · obtain ⟨v1, v2⟩ := h
          have u2 : (c.toNat : Int) < 97 := by omega
          have u3 : ¬ ((c.toNat : Int) < 48) := by omega
          go_wp2
          go_ret
          exact ⟨by rw [HF.out]; rfl, rfl⟩
        · obtain ⟨v1, v2⟩ := h
          have u1 : ¬ ((c.toNat : Int) < 65) := by omega
          have u3 : ¬ ((c.toNat : Int) < 48) := by omega
          have u4 : (57 : Int) < (c.toNat : Int) := by omega
          go_wp2
          go_ret
          exact ⟨by rw [HF.out]; rfl, rfl⟩
        · have u1 : ¬ ((c.toNat : Int) < 65) := by omega
          have u2 : (90 : Int) < (c.toNat : Int) := by omega
          have u3 : ¬ ((c.toNat : Int) < 48) := by omega
          have u4 : (57 : Int) < (c.toNat : Int) := by omega
          have u5 : ¬ ((c.toNat : Int) < 97) := by omega
          go_wp2
          go_ret
          exact ⟨by rw [HF.out]; rfl, rfl⟩
    · have hall := HN.out
      rw [List.take_of_length_le (by omega)] at hall
      by_cases h1 : l.length = 1
      · have HF := hid (show decide (KindOk l) = true from decide_eq_true ⟨Or.inl h1, hall⟩)
        have f1 : ((l.length : Int) == 1) = true := by simp; omega
        clear hall h1
        go_wp2
        go_ret
        exact ⟨by rw [HF.out]; rfl, rfl⟩
      · have f1 : ((l.length : Int) == 1) = false := by simp; omega
        by_cases h2 : l.length = 2
        · have HF := hid (show decide (KindOk l) = true from decide_eq_true ⟨Or.inr h2, hall⟩)
          have f2 : ((l.length : Int) == 2) = true := by simp; omega
          clear hall h1 h2
          go_wp2
          go_ret
          exact ⟨by rw [HF.out]; rfl, rfl⟩
        · have HF := hid (show decide (KindOk l) = false from decide_eq_false (fun h => by rcases h.1 with h | h; exact h1 h; exact h2 h))
          have f2 : ((l.length : Int) == 2) = false := by simp; omega
          clear hall h1 h2
          go_wp2
          go_ret
          exact ⟨by rw [HF.out]; rfl, rfl⟩

set_option maxHeartbeats 4000000 in
set_option maxRecDepth 100000 in
/-- the document's isValue. -/
theorem risvalue_any (l : List UInt8) (w : World) (hl : l.length < 9223372036854775808) :
    Calls Tryd.prog 51 #[.string ⟨l.toArray⟩] w fun e w' => e = .returned (.bool (decide (ValOk l))) ∧ w' = w := by
  go_enter Tryd.func51, Tryd.ntmps51
  go_wp2_with fail
  go_loopw [3] (fun iv wr => ∃ k : Nat, k ≤ l.length ∧ iv = .int .i64 k ∧ wr = w ∧ Hid (∀ c ∈ l.take k, Pr c)) (fun iv _ => l.length - (RowKit.intOf iv).toNat)
  case atStart => exact ⟨0, Nat.zero_le _, rfl, rfl, fun x hx => by simp at hx⟩
  case round =>
    obtain ⟨k, hk, rfl, rfl, HN⟩ := hrel
    by_cases hlt : k < l.length
    · obtain ⟨c, hc⟩ : ∃ c, l[k] = c := ⟨_, rfl⟩
      have hx : ∀ h : k < (⟨l.toArray⟩ : ByteArray).size, (⟨l.toArray⟩ : ByteArray)[k] = c := fun h => by rw [ba_at l k hlt h, hc]
      have i0 : (0 : Int) ≤ (k : Int) := by omega
      have i1 : (k : Int) < (l.length : Int) := by omega
      have hc256 : c.toNat < 256 := c.toNat_lt
      have HC := hid hc
      clear hc
      by_cases hp : Pr c
      · have HN2 := hid (take_all hlt HN.out (by rw [HC.out]; exact hp))
        unfold Pr at hp
        have u1 : ¬ ((c.toNat : Int) < 32) := by omega
        have u2 : ¬ ((126 : Int) < (c.toNat : Int)) := by omega
        clear hp
        go_wp2
        go_roundw
        case rel => exact ⟨k + 1, by omega, by go_num, trivial, HN2⟩
        case measure => simp [RowKit.intOf]; omega
      · have HF := hid (show decide (ValOk l) = false from decide_eq_false (fun h => hp (h.2 c (by rw [← HC.out]; exact List.getElem_mem hlt))))
        unfold Pr at hp
        by_cases u1 : (c.toNat : Int) < 32
        · clear hp
          go_wp2
          go_ret
          exact ⟨by rw [HF.out]; rfl, rfl⟩
        · have u2 : (126 : Int) < (c.toNat : Int) := by omega
          clear hp
          go_wp2
          go_ret
          exact ⟨by rw [HF.out]; rfl, rfl⟩
    · have hall := HN.out
      rw [List.take_of_length_le (by omega)] at hall
      have HF := hid (show decide (ValOk l) = decide ((1 : Int) ≤ (l.length : Int)) from decide_eq_decide.2 ⟨fun h => by have := h.1; cases l; exact absurd rfl this; simp; omega, fun h => ⟨fun e => by rw [e] at h; simp at h, hall⟩⟩)
      clear hall
      go_wp2
      go_ret
      exact ⟨by rw [HF.out]; rfl, rfl⟩

set_option maxHeartbeats 4000000 in
set_option maxRecDepth 100000 in
/-- the document's isTag. -/
theorem istag_any (t : Int) (w : World) :
    Calls Tryd.prog 49 #[.int .i64 t] w fun e w' => e = .returned (.bool (decide (TagOk t))) ∧ w' = w := by
  by_cases u1 : 1 ≤ t
  · by_cases u2 : t ≤ 9999
    · by_cases u3 : t = 8
      · subst u3
        go_enter Tryd.func49, Tryd.ntmps49
        go_wp2
        go_ret
        exact ⟨rfl, rfl⟩
      · by_cases u4 : t = 9
        · subst u4
          go_enter Tryd.func49, Tryd.ntmps49
          go_wp2
          go_ret
          exact ⟨rfl, rfl⟩
        · by_cases u5 : t = 10
          · subst u5
            go_enter Tryd.func49, Tryd.ntmps49
            go_wp2
            go_ret
            exact ⟨rfl, rfl⟩
          · by_cases u6 : t = 35
            · subst u6
              go_enter Tryd.func49, Tryd.ntmps49
              go_wp2
              go_ret
              exact ⟨rfl, rfl⟩
            · rw [decide_eq_true (show TagOk t from ⟨u1, u2, u3, u4, u5, u6⟩)]
              have v3 : (t != 8) = true := by simpa using u3
              have v4 : (t != 9) = true := by simpa using u4
              have v5 : (t != 10) = true := by simpa using u5
              have v6 : (t != 35) = true := by simpa using u6
              clear u3 u4 u5 u6
              go_enter Tryd.func49, Tryd.ntmps49
              go_wp2
              go_ret
              exact ⟨rfl, rfl⟩
    · rw [decide_eq_false (show ¬ TagOk t from fun h => u2 h.2.1)]
      go_enter Tryd.func49, Tryd.ntmps49
      go_wp2
      go_ret
      exact ⟨rfl, rfl⟩
  · rw [decide_eq_false (show ¬ TagOk t from fun h => u1 h.1)]
    go_enter Tryd.func49, Tryd.ntmps49
    go_wp2
    go_ret
    exact ⟨rfl, rfl⟩

set_option maxHeartbeats 2000000 in
set_option maxRecDepth 100000 in
/-- the document's there. -/
theorem there_any (l : List (Int × List UInt8)) (q : Option Addr) (cap : Nat) (tag : Int) (w : World) (hl : l.length < 9223372036854775808) (hT : Ts w q l) :
    Calls Tryd.prog 50 #[.slice q l.length cap, .int .i64 tag] w fun e w' => e = .returned (.bool (val? l tag).isSome) ∧ w' = w := by
  have HT := hid hT
  clear hT
  go_enter Tryd.func50, Tryd.ntmps50
  go_wp2_with fail
  go_loopw [5] (fun iv wr => ∃ k : Nat, k ≤ l.length ∧ iv = .int .i64 k ∧ wr = w ∧ Hid (∀ x ∈ l.take k, x.1 ≠ tag)) (fun iv _ => l.length - (RowKit.intOf iv).toNat)
  case atStart => exact ⟨0, Nat.zero_le _, rfl, rfl, fun x hx => by simp at hx⟩
  case round =>
    obtain ⟨k, hk, rfl, rfl, HN⟩ := hrel
    by_cases hlt : k < l.length
    · obtain ⟨b, o, rfl, h0, h1⟩ := HT.out k hlt
      have i0 : (0 : Int) ≤ (k : Int) := by omega
      have i1 : (k : Int) < (l.length : Int) := by omega
      obtain ⟨z, s, hz⟩ : ∃ z s, l[k] = (z, s) := ⟨_, _, rfl⟩
      rw [hz] at h0 h1
      simp only at h0 h1
      by_cases ht : z = tag
      · have HV := hid (val_at k hlt HN.out (by rw [hz]; exact ht))
        clear hz
        subst ht
        go_wp2
        go_ret
        exact ⟨by rw [HV.out]; rfl, rfl⟩
      · have HN2 := hid (show ∀ x ∈ l.take (k + 1), x.1 ≠ tag by
          rw [List.take_succ_eq_append_getElem hlt, hz]
          intro x hx
          rcases List.mem_append.1 hx with hx | hx
          · exact HN.out x hx
          · obtain rfl := List.mem_singleton.1 hx; exact ht)
        clear hz
        go_wp2
        go_roundw
        case rel => exact ⟨k + 1, by omega, by go_num, trivial, HN2⟩
        case measure => simp [RowKit.intOf]; omega
    · have HV := hid (val_none (by have := HN.out; rwa [List.take_of_length_le (by omega)] at this))
      go_wp2
      go_ret
      exact ⟨by rw [HV.out]; rfl, rfl⟩

theorem three_plain (n : Nat) (hn : n < 256) : (decDigits (1000 + n)).drop 1 = [UInt8.ofNat (48 + n / 100), UInt8.ofNat (48 + n / 10 % 10), UInt8.ofNat (48 + n % 10)] := by
  have e3 : decDigits (1000 + n) = decDigits ((1000 + n) / 10) ++ [UInt8.ofNat (48 + (1000 + n) % 10)] := by rw [decDigits, dif_neg (by omega)]
  have e2 : decDigits ((1000 + n) / 10) = decDigits ((1000 + n) / 10 / 10) ++ [UInt8.ofNat (48 + (1000 + n) / 10 % 10)] := by rw [decDigits, dif_neg (by omega)]
  have e1 : decDigits ((1000 + n) / 10 / 10) = [UInt8.ofNat (48 + (1000 + n) / 10 / 10 / 10), UInt8.ofNat (48 + (1000 + n) / 10 / 10 % 10)] := decDigits_two (by omega) (by omega)
  rw [e3, e2, e1, show (1000 + n) / 10 / 10 % 10 = n / 100 by omega, show (1000 + n) / 10 % 10 = n / 10 % 10 by omega, show (1000 + n) % 10 = n % 10 by omega]
  rfl
theorem run_conv3 (w : World) (b : Nat) (c0 c1 c2 : UInt8) (h0 : w.cell? ⟨b, 0, none⟩ = some (.int .u8 (c0.toNat : Int))) (h1 : w.cell? ⟨b, 1, none⟩ = some (.int .u8 (c1.toNat : Int))) (h2 : w.cell? ⟨b, 2, none⟩ = some (.int .u8 (c2.toNat : Int))) :
    (convert 26 9 (.slice (some ⟨b, 0, none⟩) 3 3)).run Tryd.prog w = .ok (.string ⟨#[c0, c1, c2]⟩) w :=
  run_convert_bytes_back (P := Tryd.prog) w 26 9 5 ⟨b, 0, none⟩ 3 [c0, c1, c2] Tryd.underlying26 Tryd.underlying5 Tryd.underlying9 (fun j hj => by
    rw [Addr.add_mid]
    match j, hj with
    | 0, _ => simpa using h0
    | 1, _ => simpa using h1
    | 2, _ => simpa using h2)
set_option maxHeartbeats 2000000 in
set_option maxRecDepth 100000 in
/-- the document's three. -/
theorem three_any (n : Nat) (w : World) (hn : n < 256) :
    Calls Tryd.prog 36 #[.int .i64 n] w fun e w' => e = .returned (.string ⟨((decDigits (1000 + n)).drop 1).toArray⟩) ∧ Below w.heap.size w w' := by
  rw [three_plain n hn]
  have k0 : (UInt8.ofNat (48 + n / 100)).toNat = 48 + n / 100 := by simp; omega
  have k1 : (UInt8.ofNat (48 + n / 10 % 10)).toNat = 48 + n / 10 % 10 := by simp; omega
  have k2 : (UInt8.ofNat (48 + n % 10)).toNat = 48 + n % 10 := by simp; omega
  obtain ⟨d0, hd0⟩ : ∃ d, UInt8.ofNat (48 + n / 100) = d := ⟨_, rfl⟩
  obtain ⟨d1, hd1⟩ : ∃ d, UInt8.ofNat (48 + n / 10 % 10) = d := ⟨_, rfl⟩
  obtain ⟨d2, hd2⟩ : ∃ d, UInt8.ofNat (48 + n % 10) = d := ⟨_, rfl⟩
  rw [hd0] at k0 ⊢
  rw [hd1] at k1 ⊢
  rw [hd2] at k2 ⊢
  have cv := run_conv3 (w.alloc (.cells #[.int .u8 (48 + (n : Int) / 100), .int .u8 (48 + (n : Int) / 10 % 10), .int .u8 (48 + (n : Int) % 10)] 5)) w.heap.size d0 d1 d2 (by rw [World.cell?_alloc_new, k0]; simp) (by rw [World.cell?_alloc_new, k1]; simp) (by rw [World.cell?_alloc_new, k2]; simp)
  have w0 : IntKind.u8.wrap (48 + (n : Int) / 100) = 48 + (n : Int) / 100 := by rw [IntKind.wrap_u8]; omega
  have w1 : IntKind.u8.wrap (48 + (n : Int) / 10 % 10) = 48 + (n : Int) / 10 % 10 := by rw [IntKind.wrap_u8]; omega
  have w2 : IntKind.u8.wrap (48 + (n : Int) % 10) = 48 + (n : Int) % 10 := by rw [IntKind.wrap_u8]; omega
  clear k0 k1 k2 hd0 hd1 hd2
  go_enter Tryd.func36, Tryd.ntmps36
  go_wp2
  go_ret
  exact ⟨rfl, ball _ _⟩
end Go.Proofs.YtolabllgnfpfaaaDoor
