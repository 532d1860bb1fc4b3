/-
  Contracts and plain facts, part 1.
-/
import Derived.Test.YtacdjioieclggaaDoorZi
import Derived.Deep.RegionLaw
import Derived.Laws.Rows
import Derived.Laws.Tables
namespace Go.Proofs.YtacdjioieclggaaDoor.Msg
open Go.RowKit Go.Maps Go.Deep Go.Lib
set_option linter.unusedVariables false
set_option linter.unusedSimpArgs false
theorem St.sn {w w' : World} {g : Nat} {t : TypeId} {cs : Array Value} (h : St w g t cs w') {q : Option Addr} {l : List Int} (hq : ∀ b o, q = some ⟨b, o, none⟩ → b ≠ g) (hS : Sn w q l) : Sn w' q l := fun i hi => by
  obtain ⟨b, o, e, hc⟩ := hS i hi
  exact ⟨b, o, e, h.cell (hq b o e) hc⟩
end Go.Proofs.YtacdjioieclggaaDoor.Msg
namespace Go.Proofs.YtacdjioieclggaaDoor
open Go.RowKit Go.Deep Go.Lib Go.Shelf Go.Sort
set_option linter.unusedVariables false
set_option maxHeartbeats 2000000 in
set_option maxRecDepth 100000 in
/-- the document's Sum. -/
theorem rsum_any (l : List UInt8) (q : Option Addr) (cap : Nat) (w : World) (hl : l.length < 9223372036854775808) (hS : Sb w q l) :
    Calls Tryd.prog 63 #[.slice q l.length cap] w fun e w' => e = .returned (.int .i64 (sumB l : Nat)) ∧ w' = w := by
  have HS := hid hS
  clear hS
  go_enter Tryd.func63, Tryd.ntmps63
  go_wp2_with fail
  go_loopw [3, 4] (fun sv iv wr => ∃ k s : Nat, k ≤ l.length ∧ iv = .int .i64 k ∧ sv = .int .i64 s ∧ s < 256 ∧ Hid (sumB (l.take k) = s) ∧ wr = w) (fun _ iv _ => l.length - (RowKit.intOf iv).toNat)
  case atStart => exact ⟨0, 0, Nat.zero_le _, rfl, rfl, by decide, hid (by rw [List.take_zero, sumB_nil]), rfl⟩
  case round =>
    obtain ⟨k, s, hk, rfl, rfl, hs, HR, rfl⟩ := hrel
    by_cases hlt : k < l.length
    · obtain ⟨b, o, rfl, h0⟩ := HS.out k hlt
      obtain ⟨c, hc⟩ : ∃ c, l[k] = c := ⟨_, rfl⟩
      rw [hc] at h0
      have i0 : (0 : Int) ≤ (k : Int) := by omega
      have i1 : (k : Int) < (l.length : Int) := by omega
      have hc256 : c.toNat < 256 := c.toNat_lt
      have HR2 := hid (show sumB (l.take (k + 1)) = (s + c.toNat) % 256 by rw [List.take_succ_eq_append_getElem hlt, sumB_snoc, HR.out, hc])
      clear hc
      have hw : Int.tmod ((s : Int) + (c.toNat : Int)) 256 = (((s + c.toNat) % 256 : Nat) : Int) := by rw [Int.tmod_eq_emod_of_nonneg (by omega)]; omega
      go_wp2
      go_roundw
      case rel => exact ⟨k + 1, (s + c.toNat) % 256, by omega, by go_num, by first | rfl | (congr 1; omega), by omega, HR2, trivial⟩
      case measure => simp [RowKit.intOf]; omega
    · have hr := HR.out
      rw [List.take_of_length_le (by omega)] at hr
      have HR2 := hid hr
      clear hr
      go_wp2
      go_ret
      exact ⟨by rw [HR2.out]; rfl, rfl⟩

end Go.Proofs.YtacdjioieclggaaDoor
namespace Go.Proofs.YtacdjioieclggaaDoor
open Go.RowKit Go.Deep Go.Lib Go.Shelf Go.Sort
set_option linter.unusedVariables false
theorem run_conv1 (w : World) (b : Nat) (c : UInt8) (h : w.cell? ⟨b, 0, none⟩ = some (.int .u8 (c.toNat : Int))) :
    (convert 31 9 (.slice (some ⟨b, 0, none⟩) 1 1)).run Tryd.prog w = .ok (.string ⟨#[c]⟩) w :=
  run_convert_bytes_back (P := Tryd.prog) w 31 9 5 ⟨b, 0, none⟩ 1 [c] Tryd.underlying31 Tryd.underlying5 Tryd.underlying9 (fun j hj => by
    obtain rfl : j = 0 := by simpa using hj
    rw [Addr.add_mid]
    simpa using h)
theorem cell_newD {w w1 : World} {cs : Array Value} {T : TypeId} (j : Nat) {u : Value} (hb : Below (w.alloc (.cells cs T)).drew.heap.size (w.alloc (.cells cs T)).drew w1) (h : cs[j]? = some u) : w1.cell? ⟨w.heap.size, j, none⟩ = some u :=
  cell_new j (w := w) (cs := cs) (T := T) ⟨hb.os, hb.tape, hb.output, hb.size, hb.block⟩ h
set_option maxRecDepth 100000 in
theorem rdec_small (n : Nat) (h : n < 10) (w : World) :
    Calls Tryd.prog 28 #[.int .u64 n] w fun e w' => e = .returned (.string ⟨(decDigits n).toArray⟩) ∧ Below w.heap.size w w' := by
  rw [decDigits_one h]
  have hc : (UInt8.ofNat (48 + n)).toNat = 48 + n := by simp; omega
  obtain ⟨d, hd⟩ : ∃ d, UInt8.ofNat (48 + n) = d := ⟨_, rfl⟩
  rw [hd] at hc ⊢
  have cv := run_conv1 (w.alloc (.cells #[.int .u8 (48 + (n : Int))] 5)) w.heap.size d (by rw [World.cell?_alloc_new, hc]; simp)
  have hw1 : IntKind.u8.wrap (48 + (n : Int)) = 48 + (n : Int) := by rw [IntKind.wrap_u8]; omega
  clear hc hd
  go_enter Tryd.func28, Tryd.ntmps28
  go_wp2
  go_ret
  exact ⟨rfl, ball _ _⟩
set_option maxHeartbeats 1000000 in
set_option maxRecDepth 100000 in
theorem rdec_big (n : Nat) (h : ¬ n < 10) (hn : n < 18446744073709551616) (w : World)
    (ih : ∀ w, Calls Tryd.prog 28 #[.int .u64 ((n / 10 : Nat) : Int)] w fun e w' => e = .returned (.string ⟨(decDigits (n / 10)).toArray⟩) ∧ Below w.heap.size w w') :
    Calls Tryd.prog 28 #[.int .u64 n] w fun e w' => e = .returned (.string ⟨(decDigits n).toArray⟩) ∧ Below w.heap.size w w' := by
  have hlen := decDigits_length (n / 10)
  have h20 := nDigits_le20 (n / 10) (by omega)
  rw [decDigits, dif_neg h]
  have hc : (UInt8.ofNat (48 + n % 10)).toNat = 48 + n % 10 := by simp; omega
  obtain ⟨d, hd⟩ : ∃ d, UInt8.ofNat (48 + n % 10) = d := ⟨_, rfl⟩
  obtain ⟨D, hD⟩ : ∃ D, decDigits (n / 10) = D := ⟨_, rfl⟩
  rw [hd] at hc ⊢
  rw [hD] at ih hlen ⊢
  have hDl : D.length ≤ 20 := by omega
  have IH := hid ih
  rw [show ((n / 10 : Nat) : Int) = (n : Int) / 10 by omega] at IH
  have h10 : ¬ ((n : Int) < 10) := by omega
  have HDC := hid (show (d.toNat : Int) = 48 + (n : Int) % 10 by rw [hc]; omega)
  have CV := hid (fun (w' : World) (b : Nat) (h : w'.cell? ⟨b, 0, none⟩ = some (.int .u8 (48 + (n : Int) % 10))) => run_conv1 w' b d (by rw [h, HDC.out]))
  have cvA := CV.out (w.alloc (.cells #[.int .u8 (48 + (n : Int) % 10)] 5)).drew w.heap.size (cell_newD 0 (Below.refl _ _) rfl)
  have htm : (n : Int).tmod 10 = (n : Int) % 10 := Int.tmod_eq_emod_of_nonneg (by omega)
  have hwq : IntKind.u64.wrap ((n : Int) / 10) = (n : Int) / 10 := by rw [IntKind.wrap_u64]; omega
  have hwr : IntKind.u64.wrap ((n : Int) % 10) = (n : Int) % 10 := by rw [IntKind.wrap_u64]; omega
  have hw0 : IntKind.u64.wrap (48 + (n : Int) % 10) = 48 + (n : Int) % 10 := by rw [IntKind.wrap_u64]; omega
  have hw1 : IntKind.u8.wrap (48 + (n : Int) % 10) = 48 + (n : Int) % 10 := by rw [IntKind.wrap_u8]; omega
  have hcat : (⟨D.toArray⟩ : ByteArray) ++ ⟨#[d]⟩ = ⟨(D ++ [d]).toArray⟩ := ba_append D [d]
  clear hc hd hD hlen h20 ih h
  go_enter Tryd.func28, Tryd.ntmps28
  go_wp2
  go_region_with (first | (go_at_call 28; refine (IH.out _).mono ?_; rintro e wx ⟨rfl, hbk⟩; have HK := hid (show Below w.heap.size w wx from (by first | exact btr' (Below.drew (Below.refl _ _)) hbk | exact btr' (ball _ _).drew hbk)); (have cvB := CV.out (wx.alloc (.cells #[.int .u8 (48 + (n : Int) % 10)] 5)) wx.heap.size (by rw [World.cell?_alloc_new]; rfl)); (try (have cvC := CV.out wx w.heap.size (cell_newD 0 hbk rfl))); clear hbk))
  all_goals
    go_wp2
    go_ret
    exact ⟨rfl, by first | exact HK.out | exact HK.out.alloc HK.out.size _⟩
theorem rdecimal_any : ∀ (n : Nat), n < 18446744073709551616 → ∀ w, Calls Tryd.prog 28 #[.int .u64 n] w fun e w' => e = .returned (.string ⟨(decDigits n).toArray⟩) ∧ Below w.heap.size w w' := by
  intro n
  induction n using Nat.strongRecOn with
  | _ n ih =>
    intro hn w
    by_cases h : n < 10
    · exact rdec_small n h w
    · exact rdec_big n h hn w (fun w => ih (n / 10) (by omega) (by omega) w)
end Go.Proofs.YtacdjioieclggaaDoor
namespace Go.Proofs.YtacdjioieclggaaDoor
open Go.RowKit Go.Deep Go.Lib Go.Shelf Go.Sort
set_option linter.unusedVariables false
set_option maxHeartbeats 4000000 in
set_option maxRecDepth 100000 in
/-- the document's Kind. -/
theorem rkind_any (l : List UInt8) (w : World) (hl : l.length < 9223372036854775808) :
    Calls Tryd.prog 57 #[.string ⟨l.toArray⟩] w fun e w' => e = .returned (.bool (decide (KindOk l))) ∧ w' = w := by
  go_enter Tryd.func57, Tryd.ntmps57
  go_wp2_with fail
  go_loopw [3] (fun iv wr => ∃ k : Nat, k ≤ l.length ∧ iv = .int .i64 k ∧ wr = w ∧ Hid (∀ c ∈ l.take k, Al c)) (fun iv _ => l.length - (RowKit.intOf iv).toNat)
  case atStart => exact ⟨0, Nat.zero_le _, rfl, rfl, fun x hx => by simp at hx⟩
  case round =>
    obtain ⟨k, hk, rfl, rfl, HN⟩ := hrel
    by_cases hlt : k < l.length
    · obtain ⟨c, hc⟩ : ∃ c, l[k] = c := ⟨_, rfl⟩
      have hx : ∀ h : k < (⟨l.toArray⟩ : ByteArray).size, (⟨l.toArray⟩ : ByteArray)[k] = c := fun h => by rw [ba_at l k hlt h, hc]
      have i0 : (0 : Int) ≤ (k : Int) := by omega
      have i1 : (k : Int) < (l.length : Int) := by omega
      have hc256 : c.toNat < 256 := c.toNat_lt
      have HC := hid hc
      clear hc
      by_cases ha : Al c
      · have HN2 := hid (take_all hlt HN.out (by rw [HC.out]; exact ha))
        rcases ha with ha | ha | ha
        · unfold Dig at ha
          have u1 : (c.toNat : Int) < 65 := by omega
          have u2 : (c.toNat : Int) < 97 := by omega
          have u3 : ¬ ((c.toNat : Int) < 48) := by omega
          have u4 : ¬ ((57 : Int) < (c.toNat : Int)) := by omega
          clear ha
          go_wp2
          go_roundw
          case rel => exact ⟨k + 1, by omega, by go_num, trivial, HN2⟩
          case measure => simp [RowKit.intOf]; omega
        · unfold Up at ha
          have u1 : ¬ ((c.toNat : Int) < 65) := by omega
          have u2 : ¬ ((90 : Int) < (c.toNat : Int)) := by omega
          clear ha
          go_wp2
          go_roundw
          case rel => exact ⟨k + 1, by omega, by go_num, trivial, HN2⟩
          case measure => simp [RowKit.intOf]; omega
        · unfold Lo at ha
          have u1 : ¬ ((c.toNat : Int) < 65) := by omega
          have u2 : (90 : Int) < (c.toNat : Int) := by omega
          have u3 : ¬ ((c.toNat : Int) < 97) := by omega
          have u4 : ¬ ((122 : Int) < (c.toNat : Int)) := by omega
          clear ha
          go_wp2
          go_roundw
          case rel => exact ⟨k + 1, by omega, by go_num, trivial, HN2⟩
          case measure => simp [RowKit.intOf]; omega
      · have HF := hid (show decide (KindOk l) = false from decide_eq_false (fun h => ha (h.2 c (by rw [← HC.out]; exact List.getElem_mem hlt))))
        have h4 : (c.toNat : Int) < 48 ∨ (57 < (c.toNat : Int) ∧ (c.toNat : Int) < 65) ∨ (90 < (c.toNat : Int) ∧ (c.toNat : Int) < 97) ∨ 122 < (c.toNat : Int) := by unfold Al Dig Up Lo at ha; omega
        clear ha
        rcases h4 with h | h | h | h
        · have u1 : (c.toNat : Int) < 65 := by omega
          have u2 : (c.toNat : Int) < 97 := by omega
          go_wp2
          go_ret
          exact ⟨by rw [HF.out]; rfl, rfl⟩
        · obtain ⟨v1, v2⟩ := h
          have u2 : (c.toNat : Int) < 97 := by omega
          have u3 : ¬ ((c.toNat : Int) < 48) := by omega
          go_wp2
          go_ret
          exact ⟨by rw [HF.out]; rfl, rfl⟩
        · obtain ⟨v1, v2⟩ := h
          have u1 : ¬ ((c.toNat : Int) < 65) := by omega
          have u3 : ¬ ((c.toNat : Int) < 48) := by omega
          have u4 : (57 : Int) < (c.toNat : Int) := by omega
          go_wp2
          go_ret
          exact ⟨by rw [HF.out]; rfl, rfl⟩
        · have u1 : ¬ ((c.toNat : Int) < 65) := by omega
          have u2 : (90 : Int) < (c.toNat : Int) := by omega
          have u3 : ¬ ((c.toNat : Int) < 48) := by omega
          have u4 : (57 : Int) < (c.toNat : Int) := by omega
          have u5 : ¬ ((c.toNat : Int) < 97) := by omega
          go_wp2
          go_ret
          exact ⟨by rw [HF.out]; rfl, rfl⟩
    · have hall := HN.out
      rw [List.take_of_length_le (by omega)] at hall
      by_cases h1 : l.length = 1
      · have HF := hid (show decide (KindOk l) = true from decide_eq_true ⟨Or.inl h1, hall⟩)
        have f1 : ((l.length : Int) == 1) = true := by simp; omega
        clear hall h1
        go_wp2
        go_ret
        exact ⟨by rw [HF.out]; rfl, rfl⟩
      · have f1 : ((l.length : Int) == 1) = false := by simp; omega
        by_cases h2 : l.length = 2
        · have HF := hid (show decide (KindOk l) = true from decide_eq_true ⟨Or.inr h2, hall⟩)
          have f2 : ((l.length : Int) == 2) = true := by simp; omega
          clear hall h1 h2
          go_wp2
          go_ret
          exact ⟨by rw [HF.out]; rfl, rfl⟩
        · have HF := hid (show decide (KindOk l) = false from decide_eq_false (fun h => by rcases h.1 with h | h; exact h1 h; exact h2 h))
          have f2 : ((l.length : Int) == 2) = false := by simp; omega
          clear hall h1 h2
          go_wp2
          go_ret
          exact ⟨by rw [HF.out]; rfl, rfl⟩

set_option maxHeartbeats 4000000 in
set_option maxRecDepth 100000 in
/-- the document's isValue. -/
theorem risvalue_any (l : List UInt8) (w : World) (hl : l.length < 9223372036854775808) :
    Calls Tryd.prog 60 #[.string ⟨l.toArray⟩] w fun e w' => e = .returned (.bool (decide (ValOk l))) ∧ w' = w := by
  go_enter Tryd.func60, Tryd.ntmps60
  go_wp2_with fail
  go_loopw [3] (fun iv wr => ∃ k : Nat, k ≤ l.length ∧ iv = .int .i64 k ∧ wr = w ∧ Hid (∀ c ∈ l.take k, Pr c)) (fun iv _ => l.length - (RowKit.intOf iv).toNat)
  case atStart => exact ⟨0, Nat.zero_le _, rfl, rfl, fun x hx => by simp at hx⟩
  case round =>
    obtain ⟨k, hk, rfl, rfl, HN⟩ := hrel
    by_cases hlt : k < l.length
    · obtain ⟨c, hc⟩ : ∃ c, l[k] = c := ⟨_, rfl⟩
      have hx : ∀ h : k < (⟨l.toArray⟩ : ByteArray).size, (⟨l.toArray⟩ : ByteArray)[k] = c := fun h => by rw [ba_at l k hlt h, hc]
      have i0 : (0 : Int) ≤ (k : Int) := by omega
      have i1 : (k : Int) < (l.length : Int) := by omega
      have hc256 : c.toNat < 256 := c.toNat_lt
      have HC := hid hc
      clear hc
      by_cases hp : Pr c
      · have HN2 := hid (take_all hlt HN.out (by rw [HC.out]; exact hp))
        unfold Pr at hp
        have u1 : ¬ ((c.toNat : Int) < 32) := by omega
        have u2 : ¬ ((126 : Int) < (c.toNat : Int)) := by omega
        clear hp
        go_wp2
        go_roundw
        case rel => exact ⟨k + 1, by omega, by go_num, trivial, HN2⟩
        case measure => simp [RowKit.intOf]; omega
      · have HF := hid (show decide (ValOk l) = false from decide_eq_false (fun h => hp (h.2 c (by rw [← HC.out]; exact List.getElem_mem hlt))))
        unfold Pr at hp
        by_cases u1 : (c.toNat : Int) < 32
        · clear hp
          go_wp2
          go_ret
          exact ⟨by rw [HF.out]; rfl, rfl⟩
        · have u2 : (126 : Int) < (c.toNat : Int) := by omega
          clear hp
          go_wp2
          go_ret
          exact ⟨by rw [HF.out]; rfl, rfl⟩
    · have hall := HN.out
      rw [List.take_of_length_le (by omega)] at hall
      have HF := hid (show decide (ValOk l) = decide ((1 : Int) ≤ (l.length : Int)) from decide_eq_decide.2 ⟨fun h => by have := h.1; cases l; exact absurd rfl this; simp; omega, fun h => ⟨fun e => by rw [e] at h; simp at h, hall⟩⟩)
      clear hall
      go_wp2
      go_ret
      exact ⟨by rw [HF.out]; rfl, rfl⟩

set_option maxHeartbeats 4000000 in
set_option maxRecDepth 100000 in
/-- the document's isTag. -/
theorem istag_any (t : Int) (w : World) :
    Calls Tryd.prog 58 #[.int .i64 t] w fun e w' => e = .returned (.bool (decide (TagOk t))) ∧ w' = w := by
  by_cases u1 : 1 ≤ t
  · by_cases u2 : t ≤ 9999
    · by_cases u3 : t = 8
      · subst u3
        go_enter Tryd.func58, Tryd.ntmps58
        go_wp2
        go_ret
        exact ⟨rfl, rfl⟩
      · by_cases u4 : t = 9
        · subst u4
          go_enter Tryd.func58, Tryd.ntmps58
          go_wp2
          go_ret
          exact ⟨rfl, rfl⟩
        · by_cases u5 : t = 10
          · subst u5
            go_enter Tryd.func58, Tryd.ntmps58
            go_wp2
            go_ret
            exact ⟨rfl, rfl⟩
          · by_cases u6 : t = 35
            · subst u6
              go_enter Tryd.func58, Tryd.ntmps58
              go_wp2
              go_ret
              exact ⟨rfl, rfl⟩
            · rw [decide_eq_true (show TagOk t from ⟨u1, u2, u3, u4, u5, u6⟩)]
              have v3 : (t != 8) = true := by simpa using u3
              have v4 : (t != 9) = true := by simpa using u4
              have v5 : (t != 10) = true := by simpa using u5
              have v6 : (t != 35) = true := by simpa using u6
              clear u3 u4 u5 u6
              go_enter Tryd.func58, Tryd.ntmps58
              go_wp2
              go_ret
              exact ⟨rfl, rfl⟩
    · rw [decide_eq_false (show ¬ TagOk t from fun h => u2 h.2.1)]
      go_enter Tryd.func58, Tryd.ntmps58
      go_wp2
      go_ret
      exact ⟨rfl, rfl⟩
  · rw [decide_eq_false (show ¬ TagOk t from fun h => u1 h.1)]
    go_enter Tryd.func58, Tryd.ntmps58
    go_wp2
    go_ret
    exact ⟨rfl, rfl⟩

set_option maxHeartbeats 2000000 in
set_option maxRecDepth 100000 in
/-- the document's there. -/
theorem there_any (l : List (Int × List UInt8)) (q : Option Addr) (cap : Nat) (tag : Int) (w : World) (hl : l.length < 9223372036854775808) (hT : Ts w q l) :
    Calls Tryd.prog 59 #[.slice q l.length cap, .int .i64 tag] w fun e w' => e = .returned (.bool (val? l tag).isSome) ∧ w' = w := by
  have HT := hid hT
  clear hT
  go_enter Tryd.func59, Tryd.ntmps59
  go_wp2_with fail
  go_loopw [5] (fun iv wr => ∃ k : Nat, k ≤ l.length ∧ iv = .int .i64 k ∧ wr = w ∧ Hid (∀ x ∈ l.take k, x.1 ≠ tag)) (fun iv _ => l.length - (RowKit.intOf iv).toNat)
  case atStart => exact ⟨0, Nat.zero_le _, rfl, rfl, fun x hx => by simp at hx⟩
  case round =>
    obtain ⟨k, hk, rfl, rfl, HN⟩ := hrel
    by_cases hlt : k < l.length
    · obtain ⟨b, o, rfl, h0, h1⟩ := HT.out k hlt
      have i0 : (0 : Int) ≤ (k : Int) := by omega
      have i1 : (k : Int) < (l.length : Int) := by omega
      obtain ⟨z, s, hz⟩ : ∃ z s, l[k] = (z, s) := ⟨_, _, rfl⟩
      rw [hz] at h0 h1
      simp only at h0 h1
      by_cases ht : z = tag
      · have HV := hid (val_at k hlt HN.out (by rw [hz]; exact ht))
        clear hz
        subst ht
        go_wp2
        go_ret
        exact ⟨by rw [HV.out]; rfl, rfl⟩
      · have HN2 := hid (show ∀ x ∈ l.take (k + 1), x.1 ≠ tag by
          rw [List.take_succ_eq_append_getElem hlt, hz]
          intro x hx
          rcases List.mem_append.1 hx with hx | hx
          · exact HN.out x hx
          · obtain rfl := List.mem_singleton.1 hx; exact ht)
        clear hz
        go_wp2
        go_roundw
        case rel => exact ⟨k + 1, by omega, by go_num, trivial, HN2⟩
        case measure => simp [RowKit.intOf]; omega
    · have HV := hid (val_none (by have := HN.out; rwa [List.take_of_length_le (by omega)] at this))
      go_wp2
      go_ret
      exact ⟨by rw [HV.out]; rfl, rfl⟩

set_option maxHeartbeats 2000000 in
set_option maxRecDepth 100000 in
/-- the document's field. -/
theorem field_any (t : Nat) (v : List UInt8) (w : World) (ht : t < 10000) (hv : v.length ≤ 140737488355328) :
    Calls Tryd.prog 61 #[.int .i64 t, .string ⟨v.toArray⟩] w fun e w' => e = .returned (.string ⟨(fieldB (t, v)).toArray⟩) ∧ Below w.heap.size w w' := by
  have DC := hid (rdecimal_any t (by omega) w)
  have hlen := decDigits_length t
  have hn5 : nDigits t ≤ 20 := nDigits_le20 t (by omega)
  have HF := hid (show fieldB (t, v) = ((decDigits t ++ [61]) ++ v) ++ [1] by unfold fieldB; simp)
  obtain ⟨D, hD⟩ : ∃ D, decDigits t = D := ⟨_, rfl⟩
  rw [hD] at DC hlen HF
  rw [← hlen] at hn5
  have hwt : IntKind.u64.wrap (t : Int) = (t : Int) := by rw [IntKind.wrap_u64]; omega
  have c1 : (⟨D.toArray⟩ : ByteArray) ++ ⟨#[61]⟩ = ⟨(D ++ [61]).toArray⟩ := ba_append D [61]
  have c2 : (⟨(D ++ [61]).toArray⟩ : ByteArray) ++ ⟨v.toArray⟩ = ⟨((D ++ [61]) ++ v).toArray⟩ := ba_append _ _
  have c3 : (⟨((D ++ [61]) ++ v).toArray⟩ : ByteArray) ++ ⟨#[1]⟩ = ⟨(((D ++ [61]) ++ v) ++ [1]).toArray⟩ := ba_append _ [1]
  have C1 := hid c1
  have C2 := hid c2
  have C3 := hid c3
  clear hlen hD c1 c2 c3
  go_enter Tryd.func61, Tryd.ntmps61
  go_wp2_with (go_at_call 28; refine DC.out.mono ?_; rintro e w1 ⟨rfl, hb⟩)
  go_ret
  refine ⟨?_, hb⟩
  rw [HF.out, ← C3.out, ← C2.out, ← C1.out]
  rfl

theorem run_conv3 (w : World) (b : Nat) (c0 c1 c2 : UInt8) (h0 : w.cell? ⟨b, 0, none⟩ = some (.int .u8 (c0.toNat : Int))) (h1 : w.cell? ⟨b, 1, none⟩ = some (.int .u8 (c1.toNat : Int))) (h2 : w.cell? ⟨b, 2, none⟩ = some (.int .u8 (c2.toNat : Int))) :
    (convert 31 9 (.slice (some ⟨b, 0, none⟩) 3 3)).run Tryd.prog w = .ok (.string ⟨#[c0, c1, c2]⟩) w :=
  run_convert_bytes_back (P := Tryd.prog) w 31 9 5 ⟨b, 0, none⟩ 3 [c0, c1, c2] Tryd.underlying31 Tryd.underlying5 Tryd.underlying9 (fun j hj => by
    rw [Addr.add_mid]
    match j, hj with
    | 0, _ => simpa using h0
    | 1, _ => simpa using h1
    | 2, _ => simpa using h2)
set_option maxHeartbeats 2000000 in
set_option maxRecDepth 100000 in
/-- the document's three. -/
theorem three_any (n : Nat) (w : World) (hn : n < 256) :
    Calls Tryd.prog 62 #[.int .i64 n] w fun e w' => e = .returned (.string ⟨((decDigits (1000 + n)).drop 1).toArray⟩) ∧ Below w.heap.size w w' := by
  rw [three_plain n hn]
  have k0 : (UInt8.ofNat (48 + n / 100)).toNat = 48 + n / 100 := by simp; omega
  have k1 : (UInt8.ofNat (48 + n / 10 % 10)).toNat = 48 + n / 10 % 10 := by simp; omega
  have k2 : (UInt8.ofNat (48 + n % 10)).toNat = 48 + n % 10 := by simp; omega
  obtain ⟨d0, hd0⟩ : ∃ d, UInt8.ofNat (48 + n / 100) = d := ⟨_, rfl⟩
  obtain ⟨d1, hd1⟩ : ∃ d, UInt8.ofNat (48 + n / 10 % 10) = d := ⟨_, rfl⟩
  obtain ⟨d2, hd2⟩ : ∃ d, UInt8.ofNat (48 + n % 10) = d := ⟨_, rfl⟩
  rw [hd0] at k0 ⊢
  rw [hd1] at k1 ⊢
  rw [hd2] at k2 ⊢
  have cv := run_conv3 (w.alloc (.cells #[.int .u8 (48 + (n : Int) / 100), .int .u8 (48 + (n : Int) / 10 % 10), .int .u8 (48 + (n : Int) % 10)] 5)) w.heap.size d0 d1 d2 (by rw [World.cell?_alloc_new, k0]; simp) (by rw [World.cell?_alloc_new, k1]; simp) (by rw [World.cell?_alloc_new, k2]; simp)
  have w0 : IntKind.u8.wrap (48 + (n : Int) / 100) = 48 + (n : Int) / 100 := by rw [IntKind.wrap_u8]; omega
  have w1 : IntKind.u8.wrap (48 + (n : Int) / 10 % 10) = 48 + (n : Int) / 10 % 10 := by rw [IntKind.wrap_u8]; omega
  have w2 : IntKind.u8.wrap (48 + (n : Int) % 10) = 48 + (n : Int) % 10 := by rw [IntKind.wrap_u8]; omega
  clear k0 k1 k2 hd0 hd1 hd2
  go_enter Tryd.func62, Tryd.ntmps62
  go_wp2
  go_ret
  exact ⟨rfl, ball _ _⟩
end Go.Proofs.YtacdjioieclggaaDoor
namespace Go.Proofs.YtacdjioieclggaaDoor
open Go.RowKit Go.Deep Go.Lib Go.Shelf Go.Sort
set_option linter.unusedVariables false
/-- a slice of bytes as an answer. -/
def Ans (w w' : World) (v : Value) (l : List UInt8) : Prop := ∃ q cap, v = .slice q l.length cap ∧ Sb w' q l ∧ (∀ a, q = some a → w.heap.size ≤ a.block) ∧ Below w.heap.size w w'
theorem ans_nil {w w' : World} (h : Below w.heap.size w w') : Ans w w' (.slice none 0 0) [] := ⟨none, 0, rfl, (fun i hi => by simp at hi), (fun a ha => by cases ha), h⟩

theorem sb_bytes (w : World) (l : List UInt8) : Sb (bytesWorld w 5 ⟨l.toArray⟩) (some ⟨w.heap.size, 0, none⟩) l := by
  intro i hi
  refine ⟨w.heap.size, 0, rfl, ?_⟩
  rw [Nat.zero_add, bytesWorld_cell w 5 ⟨l.toArray⟩ i (by simpa [ByteArray.size] using hi)]
  simp [List.getD, hi]
theorem run_cat (a b : List UInt8) (h : a.length + b.length ≤ 4611686018427387904) (w : World) : (binOp .add 9 (.string ⟨a.toArray⟩) (.string ⟨b.toArray⟩)).run Tryd.prog w = .ok (.string ⟨(a ++ b).toArray⟩) w := by
  have h1 : (⟨a.toArray⟩ : ByteArray) ++ ⟨b.toArray⟩ = ⟨(a ++ b).toArray⟩ := ba_append a b
  have u := Tryd.underlying9
  go_simp
  omega

set_option maxHeartbeats 4000000 in
set_option maxRecDepth 100000 in
/-- the document's Encode. -/
theorem rencode_any (kind : List UInt8) (l : List (Int × List UInt8)) (q : Option Addr) (cap : Nat) (w : World) (hk : kind.length ≤ 140737488355328) (hs : ∀ x ∈ l, x.2.length ≤ 140737488355328) (hl : l.length < 9223372036854775808) (hcap : l.length ≤ cap) (hcm : cap < 9223372036854775808) (hT : Ts w q l) :
    Calls Tryd.prog 29 #[.string ⟨kind.toArray⟩, .slice q l.length cap] w fun e w' => ∃ v, e = .returned (.tuple #[v, .int .i64 (encE kind l)]) ∧ Ans w w' v (encB kind l) := by
  have HT := hid hT
  have HSz := hid hs
  have IK := hid (rkind_any kind w (by omega))
  clear hT hs
  by_cases hkd : KindOk kind
  · rw [decide_eq_true hkd] at IK
    by_cases h64 : 64 < l.length
    · have e : encE kind l = 2 := by unfold encE; rw [if_neg (by simpa using hkd), if_pos h64]
      have e2 : encB kind l = [] := by unfold encB; rw [e]; rfl
      rw [e, e2]
      clear e e2
      have h64' : (64 : Int) < (l.length : Int) := by omega
      go_enter Tryd.func29, Tryd.ntmps29
      go_wp2_with (go_at_call 57; refine IK.out.mono ?_; rintro e w1 ⟨rfl, rfl⟩)
      go_ret2
      exact ⟨_, rfl, ans_nil (Below.refl _ _)⟩
    · have h64' : ¬ ((64 : Int) < (l.length : Int)) := by omega
      have E1 := hid (show encE kind l = if firstE [] l = 0 then (if 2048 < (lineB kind l).length then 2 else 0) else firstE [] l by unfold encE; rw [if_neg (by simpa using hkd), if_neg h64])
      have hk2 : kind.length ≤ 2 := by have := hkd.1; omega
      have HKD := hid hkd
      have H64 := hid h64
      clear hkd h64
      go_enter Tryd.func29, Tryd.ntmps29
      go_wp2_with (first | (go_at_call 57; refine IK.out.mono ?_; rintro e w ⟨rfl, rfl⟩))
      go_loopw [6] (fun iv wr => ∃ k : Nat, k ≤ l.length ∧ iv = .int .i64 k ∧ Hid (firstE [] l = firstE (l.take k) (l.drop k)) ∧ Hid (Below w.heap.size w wr) ∧ Hid (∀ x ∈ l.take k, TagOk x.1 ∧ ValOk x.2)) (fun iv _ => l.length - (RowKit.intOf iv).toNat)
      case atStart => exact ⟨0, Nat.zero_le _, rfl, hid (by simp), Below.refl _ _, fun x hx => by simp at hx⟩
      case round =>
        obtain ⟨k, hk, rfl, HFI, HB, HOK⟩ := hrel
        by_cases hlt : k < l.length
        · obtain ⟨b, o, rfl, h0, h1⟩ := (HT.out.on HB.out) k hlt
          have i0 : (0 : Int) ≤ (k : Int) := by omega
          have i1 : (k : Int) < (l.length : Int) := by omega
          have i2 : (k : Int) ≤ (cap : Int) := by omega
          obtain ⟨z, s, hz⟩ : ∃ z s, l[k] = (z, s) := ⟨_, _, rfl⟩
          have hsl : s.length ≤ 140737488355328 := HSz.out (z, s) (by rw [← hz]; exact List.getElem_mem hlt)
          have HFD := hid (firstE_drop k hlt)
          rw [hz] at h0 h1 HFD
          simp only at h0 h1
          have hlk : (l.take k).length = k := by simp; omega
          have H0 := hid h0
          have H1 := hid h1
          have keep : ∀ w', Below wr.heap.size wr w' → w'.cell? ⟨b, o + k * 2, none⟩ = some (.int .i64 z) ∧ Below wr.heap.size wr w' := by
            intro w' hb
            exact ⟨by rw [hb.cell (cell_lt H0.out)]; exact H0.out, hb⟩
          have KEEP := hid keep
          have keep1 := hid (fun w' (hb : Below wr.heap.size wr w') => show w'.cell? ⟨b, o + k * 2 + 1, none⟩ = some (.string ⟨s.toArray⟩) by rw [hb.cell (cell_lt H1.out)]; exact H1.out)
          have IT := hid (fun w' => istag_any z w')
          have TH := hid (fun w' hT => there_any (l.take k) (some ⟨b, o, none⟩) cap z w' (by omega) hT)
          have HTW := hid (fun w' (hb : Below wr.heap.size wr w') => ts_take (HT.out.on (btr' HB.out hb)) k)
          rw [hlk] at TH
          clear keep hlk h1
          by_cases ht : TagOk z
          · rw [decide_eq_true ht] at IT
            cases hss : (val? (l.take k) z).isSome with
            | true =>
              rw [hss] at TH
              have hF : fitsE (l.take k) (z, s) = 30 := by unfold fitsE; rw [if_neg (by simpa using ht), if_pos hss]
              have HE := hid (show encE kind l = 30 by rw [E1.out, HFI.out, HFD.out, hF]; rfl)
              have HE2 := hid (show encB kind l = [] by unfold encB; rw [HE.out]; rfl)
              clear hF ht hss hz
              go_wp2
              go_region_held3 (fun w' => w'.cell? ⟨b, o + k * 2, none⟩ = some (.int .i64 z) ∧ Below wr.heap.size wr w')
                (first | exact KEEP.out _ (Below.drew (Below.refl _ _)) | exact KEEP.out _ HK.out)
                (first
                | (go_at_call 58; refine (IT.out _).mono ?_; rintro e wx ⟨rfl, hw⟩; have HK := hid (show Below wr.heap.size wr wx from (by rw [hw]; first | exact HK.out | exact Below.drew (Below.refl _ _))); clear hw)
                | (go_at_call 59; refine (TH.out _ (by first | exact HTW.out _ HK.out | exact HTW.out _ (Below.drew (Below.refl _ _)))).mono ?_; rintro e wx ⟨rfl, hw⟩; have HK := hid (show Below wr.heap.size wr wx from (by rw [hw]; first | exact HK.out | exact Below.drew (Below.refl _ _))); clear hw))
              all_goals
                go_wp2
                go_ret2
                rw [HE.out, HE2.out]
                exact ⟨_, rfl, ans_nil (btr' HB.out HK.out)⟩
            | false =>
              rw [hss] at TH
              have IV := hid (fun w' => risvalue_any s w' (by omega))
              by_cases hv : ValOk s
              · rw [decide_eq_true hv] at IV
                have hF : fitsE (l.take k) (z, s) = 0 := by unfold fitsE; rw [if_neg (by simpa using ht), if_neg (by rw [hss]; decide), if_neg (by simpa using hv)]
                have HFI2 := hid (show firstE [] l = firstE (l.take (k + 1)) (l.drop (k + 1)) by rw [HFI.out, HFD.out, if_pos hF])
                have HOK2 := hid (show ∀ x ∈ l.take (k + 1), TagOk x.1 ∧ ValOk x.2 by
                  rw [List.take_succ_eq_append_getElem hlt, hz]
                  intro x hx
                  rcases List.mem_append.1 hx with hx | hx
                  · exact HOK.out x hx
                  · obtain rfl := List.mem_singleton.1 hx; exact ⟨ht, hv⟩)
                clear hF ht hss hz hv
                go_wp2
                go_region_held3 (fun w' => w'.cell? ⟨b, o + k * 2, none⟩ = some (.int .i64 z) ∧ Below wr.heap.size wr w')
                (first | exact KEEP.out _ (Below.drew (Below.refl _ _)) | exact KEEP.out _ HK.out)
                (first
                | (go_at_call 58; refine (IT.out _).mono ?_; rintro e wx ⟨rfl, hw⟩; have HK := hid (show Below wr.heap.size wr wx from (by rw [hw]; first | exact HK.out | exact Below.drew (Below.refl _ _))); clear hw)
                | (go_at_call 59; refine (TH.out _ (by first | exact HTW.out _ HK.out | exact HTW.out _ (Below.drew (Below.refl _ _)))).mono ?_; rintro e wx ⟨rfl, hw⟩; have HK := hid (show Below wr.heap.size wr wx from (by rw [hw]; first | exact HK.out | exact Below.drew (Below.refl _ _))); clear hw))
                all_goals
                  have hcc := keep1.out _ HK.out
                  go_wp2_with (go_at_call 60; refine (IV.out _).mono ?_; rintro e wy ⟨rfl, rfl⟩)
                  go_roundw
                  case rel => exact ⟨k + 1, by omega, by go_num, HFI2, hid (btr' HB.out HK.out), HOK2⟩
                  case measure => simp [RowKit.intOf]; omega
              · rw [decide_eq_false hv] at IV
                have hF : fitsE (l.take k) (z, s) = 31 := by unfold fitsE; rw [if_neg (by simpa using ht), if_neg (by rw [hss]; decide), if_pos (by simpa using hv)]
                have HE := hid (show encE kind l = 31 by rw [E1.out, HFI.out, HFD.out, hF]; rfl)
                have HE2 := hid (show encB kind l = [] by unfold encB; rw [HE.out]; rfl)
                clear hF ht hss hz hv
                go_wp2
                go_region_held3 (fun w' => w'.cell? ⟨b, o + k * 2, none⟩ = some (.int .i64 z) ∧ Below wr.heap.size wr w')
                (first | exact KEEP.out _ (Below.drew (Below.refl _ _)) | exact KEEP.out _ HK.out)
                (first
                | (go_at_call 58; refine (IT.out _).mono ?_; rintro e wx ⟨rfl, hw⟩; have HK := hid (show Below wr.heap.size wr wx from (by rw [hw]; first | exact HK.out | exact Below.drew (Below.refl _ _))); clear hw)
                | (go_at_call 59; refine (TH.out _ (by first | exact HTW.out _ HK.out | exact HTW.out _ (Below.drew (Below.refl _ _)))).mono ?_; rintro e wx ⟨rfl, hw⟩; have HK := hid (show Below wr.heap.size wr wx from (by rw [hw]; first | exact HK.out | exact Below.drew (Below.refl _ _))); clear hw))
                all_goals
                  have hcc := keep1.out _ HK.out
                  go_wp2_with (go_at_call 60; refine (IV.out _).mono ?_; rintro e wy ⟨rfl, rfl⟩)
                  go_ret2
                  rw [HE.out, HE2.out]
                  exact ⟨_, rfl, ans_nil (btr' HB.out HK.out)⟩
          · rw [decide_eq_false ht] at IT
            have hF : fitsE (l.take k) (z, s) = 30 := by unfold fitsE; rw [if_pos (by simpa using ht)]
            have HE := hid (show encE kind l = 30 by rw [E1.out, HFI.out, HFD.out, hF]; rfl)
            have HE2 := hid (show encB kind l = [] by unfold encB; rw [HE.out]; rfl)
            clear hF ht hz
            go_wp2
            go_quiet (first | (go_at_call 58; refine Calls.quiet_of_same (IT.out _)))
            go_wp2
            go_ret2
            rw [HE.out, HE2.out]
            exact ⟨_, rfl, ans_nil (btr' HB.out ⟨rfl, rfl, rfl, Nat.le_refl _, fun _ _ => rfl⟩)⟩
        · have HE0 := hid (show firstE [] l = 0 by
            have h := HFI.out
            rw [List.take_of_length_le (by omega), List.drop_eq_nil_of_le (by omega)] at h
            rw [h, firstE])
          have HOK2 := hid (show ∀ x ∈ l, TagOk x.1 ∧ ValOk x.2 by
            have h := HOK.out
            rwa [List.take_of_length_le (by omega)] at h)
          have FD0 := hid (field_any 35 kind wr (by omega) (by omega))
          rw [show ((35 : Nat) : Int) = 35 from rfl] at FD0
          have hf0 : (fieldB (35, kind)).length ≤ 40 := by
            rw [fieldB_len]
            have : nDigits 35 = 2 := nDigits_unique 1 35 (by decide) (by decide)
            simp; omega
          obtain ⟨P0, hP0⟩ : ∃ P, fieldB (35, kind) = P := ⟨_, rfl⟩
          rw [hP0] at FD0 hf0
          have HP0 := hid hP0
          clear hP0 HFI HOK
          go_wp2_with (go_at_call 61; refine FD0.out.mono ?_; rintro e wx ⟨rfl, hb⟩; have HBX := hid (btr' HB.out hb); clear hb)
          go_loopw [7, 8] (fun bv iv wr => ∃ (k : Nat) (BB : List UInt8), k ≤ l.length ∧ iv = .int .i64 k ∧ bv = .string ⟨BB.toArray⟩ ∧ BB.length ≤ 4200 ∧ Hid (BB = P0 ++ (l.take k).flatMap fieldB) ∧ Hid (Below w.heap.size w wr)) (fun _ iv _ => l.length - (RowKit.intOf iv).toNat)
          case atStart => exact ⟨0, P0, Nat.zero_le _, rfl, rfl, by omega, hid (by simp), HBX⟩
          case round =>
            obtain ⟨j, BB, hj, rfl, rfl, hBB, HBB, HBj⟩ := hrel
            by_cases hjl : j < l.length
            · obtain ⟨b, o, rfl, h0, h1⟩ := (HT.out.on HBj.out) j hjl
              have i0 : (0 : Int) ≤ (j : Int) := by omega
              have i1 : (j : Int) < (l.length : Int) := by omega
              obtain ⟨z, s, hz⟩ : ∃ z s, l[j] = (z, s) := ⟨_, _, rfl⟩
              have hsl : s.length ≤ 140737488355328 := HSz.out (z, s) (by rw [← hz]; exact List.getElem_mem hjl)
              have HFT := hid (flat_take hjl)
              have hok := HOK2.out l[j] (List.getElem_mem hjl)
              rw [hz] at h0 h1 HFT hok
              simp only at h0 h1 hok
              by_cases hbig : 2048 < BB.length + s.length
              · have HE := hid (show encE kind l = 2 by
                  rw [E1.out, if_pos HE0.out, if_pos]
                  rw [lineB_len]
                  have h2 : BB.length + s.length ≤ (bodyB kind l).length := by
                    unfold bodyB
                    conv => rhs; rw [← List.take_append_drop (j + 1) l, List.flatMap_append, HFT.out, HP0.out]
                    rw [HBB.out]
                    simp only [List.length_append, fieldB_len]
                    omega
                  omega)
                have HE2 := hid (show encB kind l = [] by unfold encB; rw [HE.out]; rfl)
                have hb2 : (2048 : Int) < (BB.length : Int) + (s.length : Int) := by omega
                clear hz hok
                go_wp2
                go_ret2
                rw [HE.out, HE2.out]
                exact ⟨_, rfl, ans_nil HBj.out⟩
              · have hb2 : ¬ ((2048 : Int) < (BB.length : Int) + (s.length : Int)) := by omega
                obtain ⟨zn, rfl⟩ : ∃ zn : Nat, z = (zn : Int) := ⟨z.toNat, by have := hok.1.1; omega⟩
                have hzn : zn < 10000 := by have := hok.1.2.1; omega
                have FD := hid (fun w' => field_any zn s w' hzn (by omega))
                have hfl := fieldB_len ((zn : Int), s)
                have hn20 : nDigits zn ≤ 20 := nDigits_le20 zn (by omega)
                simp only [Int.toNat_natCast] at hfl
                obtain ⟨PF, hPF⟩ : ∃ P, fieldB ((zn : Int), s) = P := ⟨_, rfl⟩
                rw [hPF] at FD HFT hfl
                have hPl : PF.length ≤ 2100 := by omega
                have hcat : ∀ w', (binOp .add 9 (.string ⟨BB.toArray⟩) (.string ⟨PF.toArray⟩)).run Tryd.prog w' = .ok (.string ⟨(BB ++ PF).toArray⟩) w' := fun w' => run_cat BB PF (by omega) w'
                have HBB2 := hid (show BB ++ PF = P0 ++ (l.take (j + 1)).flatMap fieldB by rw [HFT.out, ← List.append_assoc, HBB.out])
                have H0 := hid h0
                have H1 := hid h1
                have keep : ∀ w', Below wr.heap.size wr w' → (w'.cell? ⟨b, o + j * 2, none⟩ = some (.int .i64 (zn : Int)) ∧ w'.cell? ⟨b, o + j * 2 + 1, none⟩ = some (.string ⟨s.toArray⟩)) ∧ Below wr.heap.size wr w' := by
                  intro w' hb
                  exact ⟨⟨by rw [hb.cell (cell_lt H0.out)]; exact H0.out, by rw [hb.cell (cell_lt H1.out)]; exact H1.out⟩, hb⟩
                have KEEP := hid keep
                clear hz hok keep hPF hfl hn20
                go_wp2
                go_region_with (first | (go_at_call 61; refine (FD.out _).mono ?_; rintro e wx ⟨rfl, hbk⟩; have HK := hid (show Below wr.heap.size wr wx from (by first | exact btr' (Below.drew (Below.refl _ _)) hbk | exact hbk)); clear hbk))
                all_goals
                  go_wp2
                  go_roundw
                  case rel => exact ⟨j + 1, BB ++ PF, by omega, by go_num, rfl, by simp; omega, HBB2, hid (btr' HBj.out HK.out)⟩
                  case measure => simp [RowKit.intOf]; omega
            · have HBD := hid (show BB = bodyB kind l by
                have h := HBB.out
                rw [List.take_of_length_le (by omega)] at h
                unfold bodyB
                rw [HP0.out]; exact h)
              have F8 := hid (fun w' => field_any 8 [66, 82, 83, 46, 49] w' (by omega) (by decide))
              rw [show ((8 : Nat) : Int) = 8 from rfl] at F8
              have DC := hid (fun w' => rdecimal_any BB.length (by omega) w')
              have hDl : (decDigits BB.length).length ≤ 20 := by rw [decDigits_length]; exact nDigits_le20 _ (by omega)
              have F9 := hid (fun w' => field_any 9 (decDigits BB.length) w' (by omega) (by omega))
              rw [show ((9 : Nat) : Int) = 9 from rfl] at F9
              have LA := hid (show aheadB kind l = fieldB (8, [66, 82, 83, 46, 49]) ++ fieldB (9, decDigits BB.length) ++ BB by
                unfold aheadB headB
                rw [← HBD.out]
                unfold fieldB
                have e8 : decDigits (8 : Int).toNat = [56] := decDigits_one (by decide)
                have e9 : decDigits (9 : Int).toNat = [57] := decDigits_one (by decide)
                rw [e8, e9]
                simp)
              have hf8 : (fieldB (8, [66, 82, 83, 46, 49])).length ≤ 40 := by rw [fieldB_len]; have := nDigits_le20 8 (by decide); simp; omega
              have hf9 : (fieldB (9, decDigits BB.length)).length ≤ 60 := by rw [fieldB_len]; have := nDigits_le20 9 (by decide); simp; omega
              have hwB : IntKind.u64.wrap (BB.length : Int) = (BB.length : Int) := by rw [IntKind.wrap_u64]; omega
              obtain ⟨L8, hL8⟩ : ∃ P, fieldB (8, [66, 82, 83, 46, 49]) = P := ⟨_, rfl⟩
              obtain ⟨L9, hL9⟩ : ∃ P, fieldB (9, decDigits BB.length) = P := ⟨_, rfl⟩
              obtain ⟨D, hD⟩ : ∃ D, decDigits BB.length = D := ⟨_, rfl⟩
              rw [hL8] at F8 LA hf8
              rw [hL9] at F9 LA hf9
              rw [hD] at F9 DC
              have c1 : (⟨L8.toArray⟩ : ByteArray) ++ ⟨L9.toArray⟩ = ⟨(L8 ++ L9).toArray⟩ := ba_append L8 L9
              have c2 : (⟨(L8 ++ L9).toArray⟩ : ByteArray) ++ ⟨BB.toArray⟩ = ⟨(L8 ++ L9 ++ BB).toArray⟩ := ba_append (L8 ++ L9) BB
              have hAl : (L8 ++ L9 ++ BB).length ≤ 4400 := by simp; omega
              obtain ⟨AA, hAA⟩ : ∃ A, L8 ++ L9 ++ BB = A := ⟨_, rfl⟩
              rw [hAA] at c2 LA hAl
              have hlt256 := sumB_lt AA
              have TH := hid (fun w' => three_any (sumB AA) w' hlt256)
              have T7 := trailB_len AA
              have TB := hid (show trailB AA = fieldB (10, (decDigits (1000 + sumB AA)).drop 1) by
                unfold trailB fieldB
                have e10 : decDigits (10 : Int).toNat = [49, 48] := decDigits_two (by decide) (by decide)
                rw [e10]
                simp)
              have h3 : ((decDigits (1000 + sumB AA)).drop 1).length ≤ 20 := by simp [decDigits_length]; have := nDigits_le20 (1000 + sumB AA) (by omega); omega
              have F10 := hid (fun w' => field_any 10 ((decDigits (1000 + sumB AA)).drop 1) w' (by omega) (by omega))
              rw [show ((10 : Nat) : Int) = 10 from rfl, ← TB.out] at F10
              have RS := hid (fun q cap w' hS => rsum_any AA q cap w' (by omega) hS)
              obtain ⟨SS, hSS⟩ : ∃ s, sumB AA = s := ⟨_, rfl⟩
              obtain ⟨T3, hT3⟩ : ∃ s, (decDigits (1000 + sumB AA)).drop 1 = s := ⟨_, rfl⟩
              rw [hT3] at TH F10
              rw [hSS] at TH RS hlt256
              have LB := hid (show lineB kind l = AA ++ trailB AA by unfold lineB; rw [LA.out])
              have LL := hid (show (lineB kind l).length = AA.length + 7 by rw [LB.out, List.length_append, T7])
              obtain ⟨TT, hTT⟩ : ∃ T, trailB AA = T := ⟨_, rfl⟩
              rw [hTT] at F10 LB T7
              have c3 : (⟨AA.toArray⟩ : ByteArray) ++ ⟨TT.toArray⟩ = ⟨(AA ++ TT).toArray⟩ := ba_append AA TT
              obtain ⟨ZZ, hZZ⟩ : ∃ Z, AA ++ TT = Z := ⟨_, rfl⟩
              have hZl : ZZ.length = AA.length + 7 := by rw [← hZZ, List.length_append, T7]
              rw [hZZ] at c3 LB
              have cvt1 : ∀ w', (convert 9 31 (.string ⟨AA.toArray⟩)).run Tryd.prog w' = .ok (.slice (some ⟨w'.heap.size, 0, none⟩) AA.length (grownCap w' AA.length 0 5)) (bytesWorld w' 5 ⟨AA.toArray⟩) := fun w' => by
                have h := Go.Lib.run_convert_string_bytes (P := Tryd.prog) w' 9 31 5 ⟨AA.toArray⟩ Tryd.underlying9 Tryd.underlying31 Tryd.underlying5
                rw [show (⟨AA.toArray⟩ : ByteArray).size = AA.length by simp [ByteArray.size]] at h
                exact h
              have cvt2 : ∀ w', (convert 9 31 (.string ⟨ZZ.toArray⟩)).run Tryd.prog w' = .ok (.slice (some ⟨w'.heap.size, 0, none⟩) ZZ.length (grownCap w' ZZ.length 0 5)) (bytesWorld w' 5 ⟨ZZ.toArray⟩) := fun w' => by
                have h := Go.Lib.run_convert_string_bytes (P := Tryd.prog) w' 9 31 5 ⟨ZZ.toArray⟩ Tryd.underlying9 Tryd.underlying31 Tryd.underlying5
                rw [show (⟨ZZ.toArray⟩ : ByteArray).size = ZZ.length by simp [ByteArray.size]] at h
                exact h
              have HZl := hid hZl
              have HT7 := hid T7
              have hT7 : TT.length ≤ 7 := by omega
              clear hL8 hL9 hD hDl hAA hSS hT3 hTT hZZ h3 T7 hZl
              by_cases hbig : 2048 < AA.length + 7
              · have HE := hid (show encE kind l = 2 by rw [E1.out, if_pos HE0.out, if_pos (by rw [LL.out]; exact hbig)])
                have HE2 := hid (show encB kind l = [] by unfold encB; rw [HE.out]; rfl)
                have hb2 : (2048 : Int) < (ZZ.length : Int) := by have := HZl.out; omega
                go_wp2_with (first | (go_at_call 61; refine (F8.out _).mono ?_; rintro e w1 ⟨rfl, hb⟩; have HB1 := hid (btr' HBj.out hb); clear hb; refine Hid.out ?_))
                refine Lib.hid ?_
                go_wp2_with (first | (go_at_call 28; refine (DC.out _).mono ?_; rintro e w2 ⟨rfl, hb⟩; have HB2 := hid (btr' HB1.out hb); clear hb) | (go_at_call 61; refine (F9.out _).mono ?_; rintro e w3 ⟨rfl, hb⟩; have HB3 := hid (btr' HB2.out hb); clear hb; refine Hid.out ?_))
                refine Lib.hid ?_
                go_wp2_with (first | (go_at_call 63; refine (RS.out _ _ _ (sb_bytes _ AA)).mono ?_; rintro e w4 ⟨rfl, hw⟩; have HB4 := hid (show Below w.heap.size w w4 by rw [hw]; exact btr' HB3.out (bytesWorld_below _ _ _)); clear hw) | (go_at_call 62; refine (TH.out _).mono ?_; rintro e w5 ⟨rfl, hb⟩; have HB5 := hid (btr' HB4.out hb); clear hb) | (go_at_call 61; refine (F10.out _).mono ?_; rintro e w6 ⟨rfl, hb⟩; have HB6 := hid (btr' HB5.out hb); clear hb))
                go_ret2
                rw [HE.out, HE2.out]
                exact ⟨_, rfl, ans_nil HB6.out⟩
              · have HE := hid (show encE kind l = 0 by rw [E1.out, if_pos HE0.out, if_neg (by rw [LL.out]; exact hbig)])
                have HE2 := hid (show encB kind l = ZZ by unfold encB; rw [HE.out, if_pos rfl, LB.out])
                have hb2 : ¬ ((2048 : Int) < (ZZ.length : Int)) := by have := HZl.out; omega
                go_wp2_with (first | (go_at_call 61; refine (F8.out _).mono ?_; rintro e w1 ⟨rfl, hb⟩; have HB1 := hid (btr' HBj.out hb); clear hb; refine Hid.out ?_))
                refine Lib.hid ?_
                go_wp2_with (first | (go_at_call 28; refine (DC.out _).mono ?_; rintro e w2 ⟨rfl, hb⟩; have HB2 := hid (btr' HB1.out hb); clear hb) | (go_at_call 61; refine (F9.out _).mono ?_; rintro e w3 ⟨rfl, hb⟩; have HB3 := hid (btr' HB2.out hb); clear hb; refine Hid.out ?_))
                refine Lib.hid ?_
                go_wp2_with (first | (go_at_call 63; refine (RS.out _ _ _ (sb_bytes _ AA)).mono ?_; rintro e w4 ⟨rfl, hw⟩; have HB4 := hid (show Below w.heap.size w w4 by rw [hw]; exact btr' HB3.out (bytesWorld_below _ _ _)); clear hw) | (go_at_call 62; refine (TH.out _).mono ?_; rintro e w5 ⟨rfl, hb⟩; have HB5 := hid (btr' HB4.out hb); clear hb) | (go_at_call 61; refine (F10.out _).mono ?_; rintro e w6 ⟨rfl, hb⟩; have HB6 := hid (btr' HB5.out hb); clear hb))
                go_ret2
                rw [HE.out, HE2.out]
                exact ⟨_, rfl, _, _, rfl, sb_bytes _ ZZ, (fun a ha => by cases ha; exact HB6.out.size), btr' HB6.out (bytesWorld_below _ _ _)⟩
  · have e : encE kind l = 3 := by unfold encE; rw [if_pos (by simpa using hkd)]
    have e2 : encB kind l = [] := by unfold encB; rw [e]; rfl
    rw [e, e2]
    rw [decide_eq_false hkd] at IK
    clear e e2
    go_enter Tryd.func29, Tryd.ntmps29
    go_wp2_with (go_at_call 57; refine IK.out.mono ?_; rintro e w1 ⟨rfl, rfl⟩)
    go_ret2
    exact ⟨_, rfl, ans_nil (Below.refl _ _)⟩
end Go.Proofs.YtacdjioieclggaaDoor
namespace Go.Proofs.YtacdjioieclggaaDoor
open Go.RowKit Go.Deep Go.Lib Go.Shelf Go.Sort
set_option linter.unusedVariables false
theorem grown_refl (w : World) (row : Option Nat) : w.grownBy w row := ⟨rfl, rfl, rfl, Nat.le_refl _, fun _ _ _ => rfl⟩
/-- the old row, or a block that is new. -/
def At (w : World) (row u : Option Nat) : Prop := u = row ∨ ∃ g, u = some g ∧ w.heap.size ≤ g
theorem grown_step {w a c : World} {row u : Option Nat} (h : w.grownBy a row) (k : a.grownBy c u) (hu : At w row u) : w.grownBy c row :=
  ⟨k.os.trans h.os, k.tape.trans h.tape, k.output.trans h.output, Nat.le_trans h.size k.size, fun j hj hr => (k.block j (Nat.lt_of_lt_of_le hj h.size) (by
    rcases hu with rfl | ⟨g, rfl, hg⟩
    · exact hr
    · intro e
      have : j = g := by simpa using e
      omega)).trans (h.block j hj hr)⟩
theorem own_alloc {w : World} {B n : Nat} {v : Value} {xs : List Value} (h : w.ownsRow B 5 1 v n xs) (o : Obj) : (w.alloc o).ownsRow B 5 1 v n xs := by
  refine ⟨h.1, ?_⟩
  rcases h.2 with h2 | ⟨g, cap, cur, e, hB, hg, r⟩
  · exact Or.inl h2
  · refine Or.inr ⟨g, cap, cur, e, hB, ?_, r⟩
    have hlt : g < w.heap.size := by
      rcases Nat.lt_or_ge g w.heap.size with h | h
      · exact h
      · rw [Array.getElem?_eq_none h] at hg; cases hg
    rw [Below.heap_alloc w o g hlt]; exact hg

end Go.Proofs.YtacdjioieclggaaDoor
namespace Go.Proofs.YtacdjioieclggaaDoor.Msg
open Go.RowKit Go.Maps Go.Deep Go.Lib
set_option linter.unusedVariables false
set_option linter.unusedSimpArgs false
theorem name_any (x : Inp) (w : World) : Calls Tryd.prog 27 #[.agg x.v] w fun e w' => e = .returned (.int .i64 x.k) ∧ Below w.heap.size w w' := by
  unfold Inp.k Inp.v iV
  by_cases h2 : x.ki = 2
  · rw [if_pos h2, h2]
    go_enter Tryd.func27, Tryd.ntmps27
    go_wp2
    go_ret
    exact ⟨rfl, ball _ _⟩
  · rw [if_neg h2]
    by_cases h1 : x.ki = 1
    · by_cases c1 : 1 ≤ x.co
      · by_cases c3 : x.co ≤ 3
        · rw [if_pos ⟨h1, c1, c3⟩, h1]
          clear h2 h1
          go_enter Tryd.func27, Tryd.ntmps27
          go_wp2
          go_ret
          exact ⟨rfl, ball _ _⟩
        · rw [if_neg (fun h => c3 h.2.2), h1]
          clear h2 h1
          go_enter Tryd.func27, Tryd.ntmps27
          go_wp2
          go_ret
          exact ⟨rfl, ball _ _⟩
      · rw [if_neg (fun h => c1 h.2.1), h1]
        clear h2 h1
        go_enter Tryd.func27, Tryd.ntmps27
        go_wp2
        go_ret
        exact ⟨rfl, ball _ _⟩
    · rw [if_neg (fun h => h1 h.1)]
      go_enter Tryd.func27, Tryd.ntmps27
      go_wp2
      go_ret
      exact ⟨rfl, ball _ _⟩
theorem bare_any (k : Int) (w : World) : Calls Tryd.prog 54 #[.int .i64 k] w fun e w' => e = .returned (.agg (bareI k).v) ∧ Below w.heap.size w w' := by
  unfold bareI
  by_cases h : k = 4
  · rw [if_pos h, h]
    clear h
    go_enter Tryd.func54, Tryd.ntmps54
    go_wp2
    exact bodyPost_ret (results_cell_row (fn := Tryd.f54) Tryd.results54 _ _ w.heap.size 27 (iV 2 0 0 0 0 0 0 0 0 0 0) (0, 0) _ (by rfl) (heap_alloc_new _ _) Tryd.underlying27 rfl info27) rfl ⟨rfl, ball _ _⟩
  · rw [if_neg h]
    go_enter Tryd.func54, Tryd.ntmps54
    go_wp2
    exact bodyPost_ret (results_cell_row (fn := Tryd.f54) Tryd.results54 _ _ w.heap.size 27 (iV 1 k 0 0 0 0 0 0 0 0 0) (0, 0) _ (by rfl) (heap_alloc_new _ _) Tryd.underlying27 rfl info27) rfl ⟨rfl, ball _ _⟩
set_option maxHeartbeats 2000000 in
set_option maxRecDepth 100000 in
theorem value_any (x : Inp) (hx : x.Ok) (t : Int) (ht : InTag t) (w : World) : Calls Tryd.prog 55 #[.agg x.v, .int .i64 t] w fun e w' => e = .returned (.tuple #[.int .u64 (x.f t), .bool (x.okV t)]) ∧ Below w.heap.size w w' := by
  unfold InTag at ht
  unfold Inp.v iV
  obtain ⟨m0, m1⟩ := hx.me
  clear hx
  rcases ht with rfl | rfl | rfl | rfl | rfl | rfl | rfl | rfl | rfl
  · have e : x.okV 11 = true := by simp [Inp.okV]
    rw [e]
    clear e
    go_enter Tryd.func55, Tryd.ntmps55
    go_wp2
    go_ret2
    exact ⟨rfl, btr (ball _ _) (ball _ _)⟩
  · have e : x.okV 41 = true := by simp [Inp.okV]
    rw [e]
    clear e
    go_enter Tryd.func55, Tryd.ntmps55
    go_wp2
    go_ret2
    exact ⟨rfl, btr (ball _ _) (ball _ _)⟩
  · have e : x.okV 1 = true := by simp [Inp.okV]
    rw [e]
    clear e
    go_enter Tryd.func55, Tryd.ntmps55
    go_wp2
    go_ret2
    exact ⟨rfl, btr (ball _ _) (ball _ _)⟩
  · have e : x.okV 38 = true := by simp [Inp.okV]
    rw [e]
    clear e
    go_enter Tryd.func55, Tryd.ntmps55
    go_wp2
    go_ret2
    exact ⟨rfl, btr (ball _ _) (ball _ _)⟩
  · have e : x.okV 210 = true := by simp [Inp.okV]
    rw [e]
    clear e
    go_enter Tryd.func55, Tryd.ntmps55
    go_wp2
    go_ret2
    exact ⟨rfl, btr (ball _ _) (ball _ _)⟩
  · by_cases h0 : 0 ≤ x.si
    · have e : x.okV 54 = true := by simp [Inp.okV, h0]
      rw [e]
      clear e
      go_enter Tryd.func55, Tryd.ntmps55
      go_wp2
      go_ret2
      exact ⟨rfl, btr (ball _ _) (ball _ _)⟩
    · have e : x.okV 54 = false := by simp [Inp.okV, h0]
      rw [e]
      clear e
      go_enter Tryd.func55, Tryd.ntmps55
      go_wp2
      go_ret2
      exact ⟨rfl, btr (ball _ _) (ball _ _)⟩
  · by_cases h0 : 0 ≤ x.ty
    · have e : x.okV 40 = true := by simp [Inp.okV, h0]
      rw [e]
      clear e
      go_enter Tryd.func55, Tryd.ntmps55
      go_wp2
      go_ret2
      exact ⟨rfl, btr (ball _ _) (ball _ _)⟩
    · have e : x.okV 40 = false := by simp [Inp.okV, h0]
      rw [e]
      clear e
      go_enter Tryd.func55, Tryd.ntmps55
      go_wp2
      go_ret2
      exact ⟨rfl, btr (ball _ _) (ball _ _)⟩
  · by_cases h0 : 0 ≤ x.pr
    · have e : x.okV 44 = true := by simp [Inp.okV, h0]
      rw [e]
      clear e
      go_enter Tryd.func55, Tryd.ntmps55
      go_wp2
      go_ret2
      exact ⟨rfl, btr (ball _ _) (ball _ _)⟩
    · have e : x.okV 44 = false := by simp [Inp.okV, h0]
      rw [e]
      clear e
      go_enter Tryd.func55, Tryd.ntmps55
      go_wp2
      go_ret2
      exact ⟨rfl, btr (ball _ _) (ball _ _)⟩
  · by_cases h0 : 0 ≤ x.en
    · have e : x.okV 9001 = true := by simp [Inp.okV, h0]
      rw [e]
      clear e
      go_enter Tryd.func55, Tryd.ntmps55
      go_wp2
      go_ret2
      exact ⟨rfl, btr (ball _ _) (ball _ _)⟩
    · have e : x.okV 9001 = false := by simp [Inp.okV, h0]
      rw [e]
      clear e
      go_enter Tryd.func55, Tryd.ntmps55
      go_wp2
      go_ret2
      exact ⟨rfl, btr (ball _ _) (ball _ _)⟩

set_option maxHeartbeats 2000000 in
set_option maxRecDepth 100000 in
theorem with_any (x : Inp) (t n : Int) (ht : InTag t) (w : World) : Calls Tryd.prog 56 #[.agg x.v, .int .i64 t, .int .u64 n] w fun e w' => e = .returned (.agg (x.set t n).v) ∧ Below w.heap.size w w' := by
  unfold InTag at ht
  unfold Inp.v iV
  rcases ht with rfl | rfl | rfl | rfl | rfl | rfl | rfl | rfl | rfl
  · go_enter Tryd.func56, Tryd.ntmps56
    go_wp2
    exact bodyPost_ret (results_cell_row (fn := Tryd.f56) Tryd.results56 _ _ (w.heap.size + 1) 27 (x.set 11 n).v (0, 0) _ (by rfl) (heap2 _ _ _) Tryd.underlying27 rfl info27) rfl ⟨rfl, btr (ball _ _) (ball _ _)⟩
  · go_enter Tryd.func56, Tryd.ntmps56
    go_wp2
    exact bodyPost_ret (results_cell_row (fn := Tryd.f56) Tryd.results56 _ _ (w.heap.size + 1) 27 (x.set 41 n).v (0, 0) _ (by rfl) (heap2 _ _ _) Tryd.underlying27 rfl info27) rfl ⟨rfl, btr (ball _ _) (ball _ _)⟩
  · go_enter Tryd.func56, Tryd.ntmps56
    go_wp2
    exact bodyPost_ret (results_cell_row (fn := Tryd.f56) Tryd.results56 _ _ (w.heap.size + 1) 27 (x.set 1 n).v (0, 0) _ (by rfl) (heap2 _ _ _) Tryd.underlying27 rfl info27) rfl ⟨rfl, btr (ball _ _) (ball _ _)⟩
  · go_enter Tryd.func56, Tryd.ntmps56
    go_wp2
    exact bodyPost_ret (results_cell_row (fn := Tryd.f56) Tryd.results56 _ _ (w.heap.size + 1) 27 (x.set 38 n).v (0, 0) _ (by rfl) (heap2 _ _ _) Tryd.underlying27 rfl info27) rfl ⟨rfl, btr (ball _ _) (ball _ _)⟩
  · go_enter Tryd.func56, Tryd.ntmps56
    go_wp2
    exact bodyPost_ret (results_cell_row (fn := Tryd.f56) Tryd.results56 _ _ (w.heap.size + 1) 27 (x.set 210 n).v (0, 0) _ (by rfl) (heap2 _ _ _) Tryd.underlying27 rfl info27) rfl ⟨rfl, btr (ball _ _) (ball _ _)⟩
  · go_enter Tryd.func56, Tryd.ntmps56
    go_wp2
    exact bodyPost_ret (results_cell_row (fn := Tryd.f56) Tryd.results56 _ _ (w.heap.size + 1) 27 (x.set 54 n).v (0, 0) _ (by rfl) (heap2 _ _ _) Tryd.underlying27 rfl info27) rfl ⟨rfl, btr (ball _ _) (ball _ _)⟩
  · go_enter Tryd.func56, Tryd.ntmps56
    go_wp2
    exact bodyPost_ret (results_cell_row (fn := Tryd.f56) Tryd.results56 _ _ (w.heap.size + 1) 27 (x.set 40 n).v (0, 0) _ (by rfl) (heap2 _ _ _) Tryd.underlying27 rfl info27) rfl ⟨rfl, btr (ball _ _) (ball _ _)⟩
  · go_enter Tryd.func56, Tryd.ntmps56
    go_wp2
    exact bodyPost_ret (results_cell_row (fn := Tryd.f56) Tryd.results56 _ _ (w.heap.size + 1) 27 (x.set 44 n).v (0, 0) _ (by rfl) (heap2 _ _ _) Tryd.underlying27 rfl info27) rfl ⟨rfl, btr (ball _ _) (ball _ _)⟩
  · go_enter Tryd.func56, Tryd.ntmps56
    go_wp2
    exact bodyPost_ret (results_cell_row (fn := Tryd.f56) Tryd.results56 _ _ (w.heap.size + 1) 27 (x.set 9001 n).v (0, 0) _ (by rfl) (heap2 _ _ _) Tryd.underlying27 rfl info27) rfl ⟨rfl, btr (ball _ _) (ball _ _)⟩

end Go.Proofs.YtacdjioieclggaaDoor.Msg
namespace Go.Proofs.YtacdjioieclggaaDoor.Msg
open Go.RowKit Go.Maps Go.Deep Go.Lib
set_option linter.unusedVariables false
set_option linter.unusedSimpArgs false
def fc (k t : Int) : List Value := [.int .i64 t, .int .u64 (most t), .int .i64 (plW k t), .int .i64 (plB t)]
theorem fc_at (k : Int) : ∀ (l : List Int) (i : Nat) (h : i < l.length) (j : Nat), j < 4 → (l.flatMap (fc k))[i * 4 + j]? = (fc k l[i])[j]?
  | x :: l, 0, h, j, hj => by
    rw [List.flatMap_cons, List.getElem?_append_left (by simp [fc]; omega)]
    simp
  | x :: l, i + 1, h, j, hj => by
    rw [List.flatMap_cons, List.getElem?_append_right (by simp [fc]; omega)]
    have e : (i + 1) * 4 + j - (fc k x).length = i * 4 + j := by simp [fc]; omega
    rw [e, fc_at k l i (by simpa using h) j hj]
    simp
theorem sf_new (k : Int) (w : World) (g : Nat) (cs : Array Value) (l : List Int) (hg : w.heap.size = g) (h : cs.toList = l.flatMap (fc k)) : Sf (w.alloc (.cells cs 73)) (some ⟨g, 0, none⟩) k l := by
  subst hg
  intro i hi
  have c : ∀ j, j < 4 → (w.alloc (.cells cs 73)).cell? ⟨w.heap.size, 0 + i * 4 + j, none⟩ = (fc k l[i])[j]? := by
    intro j hj
    rw [Nat.zero_add, World.cell?_alloc_new, ← Array.getElem?_toList, h]
    exact fc_at k l i hi j hj
  exact ⟨w.heap.size, 0, rfl, c 0 (by omega), c 1 (by omega), c 2 (by omega), c 3 (by omega)⟩
def FldP (k : Int) (w : World) (e : Ending) (w' : World) : Prop := ∃ q cap, e = .returned (.slice q (tagsL k).length cap) ∧ Sf w' q k (tagsL k) ∧ Below w.heap.size w w'
set_option maxHeartbeats 1000000 in
set_option maxRecDepth 100000 in
theorem fields_any (k : Int) (h1 : 1 ≤ k) (h4 : k ≤ 4) (w : World) : Calls Tryd.prog 26 #[.int .i64 k] w fun e w' => FldP k w e w' := by
  obtain rfl | rfl | rfl | rfl : k = 1 ∨ k = 2 ∨ k = 3 ∨ k = 4 := by omega
  · go_enter Tryd.func26, Tryd.ntmps26
    go_wp2
    go_ret
    exact ⟨some ⟨w.heap.size + 1 + 1 + 1 + 1 + 1, 0, none⟩, 7, rfl, sf_new 1 _ _ _ (tagsL 1) (by simp) rfl, btr (btr (btr (btr (btr (ball _ _) (ball _ _)) (ball _ _)) (ball _ _)) (ball _ _)) (ball _ _)⟩
  · go_enter Tryd.func26, Tryd.ntmps26
    go_wp2
    go_ret
    exact ⟨some ⟨w.heap.size + 1 + 1 + 1 + 1 + 1, 0, none⟩, 1, rfl, sf_new 2 _ _ _ (tagsL 2) (by simp) rfl, btr (btr (btr (btr (btr (ball _ _) (ball _ _)) (ball _ _)) (ball _ _)) (ball _ _)) (ball _ _)⟩
  · go_enter Tryd.func26, Tryd.ntmps26
    go_wp2
    go_ret
    exact ⟨some ⟨w.heap.size + 1 + 1 + 1 + 1 + 1, 0, none⟩, 5, rfl, sf_new 3 _ _ _ (tagsL 3) (by simp) rfl, btr (btr (btr (btr (btr (ball _ _) (ball _ _)) (ball _ _)) (ball _ _)) (ball _ _)) (ball _ _)⟩
  · go_enter Tryd.func26, Tryd.ntmps26
    go_wp2
    go_ret
    exact ⟨some ⟨w.heap.size + 1 + 1 + 1 + 1 + 1, 0, none⟩, 1, rfl, sf_new 4 _ _ _ (tagsL 4) (by simp) rfl, btr (btr (btr (btr (btr (ball _ _) (ball _ _)) (ball _ _)) (ball _ _)) (ball _ _)) (ball _ _)⟩

end Go.Proofs.YtacdjioieclggaaDoor.Msg
namespace Go.Proofs.YtacdjioieclggaaDoor.Msg
open Go.RowKit Go.Maps Go.Deep Go.Lib
set_option linter.unusedVariables false
set_option linter.unusedSimpArgs false
theorem agn_step (x : Inp) (k : Int) (L : List Int) (j : Nat) (h : j < L.length) : agn x k (L.take (j + 1)) = (agn x k (L.take j)).set L[j] (x.f L[j]) := by
  unfold agn
  rw [List.take_succ_eq_append_getElem h, List.foldl_append]
  rfl
theorem most_nn (t : Int) : 0 ≤ most t := by
  unfold most bnd
  repeat' split
  all_goals omega
theorem bad_of {l : List Int} {g : Int → Bool} {p : Prop} (h : l.all g = false) : ¬ (l.all g = true ∧ p) := fun e => by rw [h] at e; exact absurd e.1 (by simp)
theorem frz_I {w : World} {g : Nat} {cs : Array Value} (h : w.heap[g]? = some (.cells cs 27 (0, 0))) : w.frozen? ⟨g, 0, none⟩ = false ∧ w.frozen? ⟨g, 1, none⟩ = false ∧ w.frozen? ⟨g, 2, none⟩ = false ∧ w.frozen? ⟨g, 3, none⟩ = false ∧ w.frozen? ⟨g, 4, none⟩ = false ∧ w.frozen? ⟨g, 5, none⟩ = false ∧ w.frozen? ⟨g, 6, none⟩ = false ∧ w.frozen? ⟨g, 7, none⟩ = false ∧ w.frozen? ⟨g, 8, none⟩ = false ∧ w.frozen? ⟨g, 9, none⟩ = false ∧ w.frozen? ⟨g, 10, none⟩ = false :=
  ⟨frozen_of_row w g 0 _ 27 h, frozen_of_row w g 1 _ 27 h, frozen_of_row w g 2 _ 27 h, frozen_of_row w g 3 _ 27 h, frozen_of_row w g 4 _ 27 h, frozen_of_row w g 5 _ 27 h, frozen_of_row w g 6 _ 27 h, frozen_of_row w g 7 _ 27 h, frozen_of_row w g 8 _ 27 h, frozen_of_row w g 9 _ 27 h, frozen_of_row w g 10 _ 27 h⟩
def ValP (x : Inp) (w : World) (e : Ending) (w' : World) : Prop := Below w.heap.size w w' ∧
  ((¬ ((tagsL x.k).all (good x) = true ∧ (agn x x.k (tagsL x.k)).v = x.v) ∧ e = .returned (.tuple #[.slice none 0 0, .int .i64 40])) ∨
   (((tagsL x.k).all (good x) = true ∧ (agn x x.k (tagsL x.k)).v = x.v) ∧ ∃ p cp, e = .returned (.tuple #[.slice p (tagsL x.k).length cp, .int .i64 0]) ∧ Su w' p ((tagsL x.k).map x.f)))
theorem st11 (w : World) (A : Nat) (o y : Inp) (h : w.heap[A]? = some (.cells o.v 27 (0, 0))) : ∃ W, (((((((((((w.setCell ⟨A, 0, none⟩ (.int .i64 y.ki)).setCell ⟨A, 1, none⟩ (.int .i64 y.co)).setCell ⟨A, 2, none⟩ (.int .u64 y.id)).setCell ⟨A, 3, none⟩ (.int .u64 y.tg)).setCell ⟨A, 4, none⟩ (.int .u32 y.me)).setCell ⟨A, 5, none⟩ (.int .i64 y.si)).setCell ⟨A, 6, none⟩ (.int .i64 y.ty)).setCell ⟨A, 7, none⟩ (.int .i64 y.pr)).setCell ⟨A, 8, none⟩ (.int .u64 y.qt)).setCell ⟨A, 9, none⟩ (.int .u64 y.pe)).setCell ⟨A, 10, none⟩ (.int .i64 y.en)) = W ∧ St w A 27 y.v W := by
  have h1 := heap_setCell_same w A 0 _ 27 (.int .i64 y.ki) h
  have h2 := heap_setCell_same (w.setCell ⟨A, 0, none⟩ (.int .i64 y.ki)) A 1 _ 27 (.int .i64 y.co) h1
  have h3 := heap_setCell_same ((w.setCell ⟨A, 0, none⟩ (.int .i64 y.ki)).setCell ⟨A, 1, none⟩ (.int .i64 y.co)) A 2 _ 27 (.int .u64 y.id) h2
  have h4 := heap_setCell_same (((w.setCell ⟨A, 0, none⟩ (.int .i64 y.ki)).setCell ⟨A, 1, none⟩ (.int .i64 y.co)).setCell ⟨A, 2, none⟩ (.int .u64 y.id)) A 3 _ 27 (.int .u64 y.tg) h3
  have h5 := heap_setCell_same ((((w.setCell ⟨A, 0, none⟩ (.int .i64 y.ki)).setCell ⟨A, 1, none⟩ (.int .i64 y.co)).setCell ⟨A, 2, none⟩ (.int .u64 y.id)).setCell ⟨A, 3, none⟩ (.int .u64 y.tg)) A 4 _ 27 (.int .u32 y.me) h4
  have h6 := heap_setCell_same (((((w.setCell ⟨A, 0, none⟩ (.int .i64 y.ki)).setCell ⟨A, 1, none⟩ (.int .i64 y.co)).setCell ⟨A, 2, none⟩ (.int .u64 y.id)).setCell ⟨A, 3, none⟩ (.int .u64 y.tg)).setCell ⟨A, 4, none⟩ (.int .u32 y.me)) A 5 _ 27 (.int .i64 y.si) h5
  have h7 := heap_setCell_same ((((((w.setCell ⟨A, 0, none⟩ (.int .i64 y.ki)).setCell ⟨A, 1, none⟩ (.int .i64 y.co)).setCell ⟨A, 2, none⟩ (.int .u64 y.id)).setCell ⟨A, 3, none⟩ (.int .u64 y.tg)).setCell ⟨A, 4, none⟩ (.int .u32 y.me)).setCell ⟨A, 5, none⟩ (.int .i64 y.si)) A 6 _ 27 (.int .i64 y.ty) h6
  have h8 := heap_setCell_same (((((((w.setCell ⟨A, 0, none⟩ (.int .i64 y.ki)).setCell ⟨A, 1, none⟩ (.int .i64 y.co)).setCell ⟨A, 2, none⟩ (.int .u64 y.id)).setCell ⟨A, 3, none⟩ (.int .u64 y.tg)).setCell ⟨A, 4, none⟩ (.int .u32 y.me)).setCell ⟨A, 5, none⟩ (.int .i64 y.si)).setCell ⟨A, 6, none⟩ (.int .i64 y.ty)) A 7 _ 27 (.int .i64 y.pr) h7
  have h9 := heap_setCell_same ((((((((w.setCell ⟨A, 0, none⟩ (.int .i64 y.ki)).setCell ⟨A, 1, none⟩ (.int .i64 y.co)).setCell ⟨A, 2, none⟩ (.int .u64 y.id)).setCell ⟨A, 3, none⟩ (.int .u64 y.tg)).setCell ⟨A, 4, none⟩ (.int .u32 y.me)).setCell ⟨A, 5, none⟩ (.int .i64 y.si)).setCell ⟨A, 6, none⟩ (.int .i64 y.ty)).setCell ⟨A, 7, none⟩ (.int .i64 y.pr)) A 8 _ 27 (.int .u64 y.qt) h8
  have h10 := heap_setCell_same (((((((((w.setCell ⟨A, 0, none⟩ (.int .i64 y.ki)).setCell ⟨A, 1, none⟩ (.int .i64 y.co)).setCell ⟨A, 2, none⟩ (.int .u64 y.id)).setCell ⟨A, 3, none⟩ (.int .u64 y.tg)).setCell ⟨A, 4, none⟩ (.int .u32 y.me)).setCell ⟨A, 5, none⟩ (.int .i64 y.si)).setCell ⟨A, 6, none⟩ (.int .i64 y.ty)).setCell ⟨A, 7, none⟩ (.int .i64 y.pr)).setCell ⟨A, 8, none⟩ (.int .u64 y.qt)) A 9 _ 27 (.int .u64 y.pe) h9
  have h11 := heap_setCell_same ((((((((((w.setCell ⟨A, 0, none⟩ (.int .i64 y.ki)).setCell ⟨A, 1, none⟩ (.int .i64 y.co)).setCell ⟨A, 2, none⟩ (.int .u64 y.id)).setCell ⟨A, 3, none⟩ (.int .u64 y.tg)).setCell ⟨A, 4, none⟩ (.int .u32 y.me)).setCell ⟨A, 5, none⟩ (.int .i64 y.si)).setCell ⟨A, 6, none⟩ (.int .i64 y.ty)).setCell ⟨A, 7, none⟩ (.int .i64 y.pr)).setCell ⟨A, 8, none⟩ (.int .u64 y.qt)).setCell ⟨A, 9, none⟩ (.int .u64 y.pe)) A 10 _ 27 (.int .i64 y.en) h10
  refine ⟨_, rfl, ⟨?_, fun b hb => ?_, by simp, fun B W0 hb hB => ?_⟩⟩
  · rw [h11]
    simp [Inp.v, iV]
  · rw [heap_setCell_other _ _ _ _ (by exact hb), heap_setCell_other _ _ _ _ (by exact hb), heap_setCell_other _ _ _ _ (by exact hb), heap_setCell_other _ _ _ _ (by exact hb), heap_setCell_other _ _ _ _ (by exact hb), heap_setCell_other _ _ _ _ (by exact hb), heap_setCell_other _ _ _ _ (by exact hb), heap_setCell_other _ _ _ _ (by exact hb), heap_setCell_other _ _ _ _ (by exact hb), heap_setCell_other _ _ _ _ (by exact hb), heap_setCell_other _ _ _ _ (by exact hb)]
  · exact (((((((((((hb.setCell (by exact hB) _).setCell (by exact hB) _).setCell (by exact hB) _).setCell (by exact hB) _).setCell (by exact hB) _).setCell (by exact hB) _).setCell (by exact hB) _).setCell (by exact hB) _).setCell (by exact hB) _).setCell (by exact hB) _).setCell (by exact hB) _)
theorem info22all : (Tryd.prog.info? 22).map (fun i => (i.zero, i.size, i.bytes)) = some (some (.int .u64 0), 1, 8) := by kernel_rfl
theorem own_app (w0 : World) {ops : Array Oper} {rest : List Oper} {o : Oper} {a : Act} {Q : Exit → Act → World → Prop} (hgd : o.guard = none) (sl xx : Operand)
    (ho : o.op = .call { callee := .builtin .append, args := #[sl, xx], argTypes := #[65, 65] }) (B : Nat) (v : Value) (l : List Int) (n : Nat) (hs : a.eval sl = v) (hown : w0.ownsRow B 22 1 v n (uv l)) (c : Int) (hx : a.eval xx = .slice (some ⟨w0.heap.size, 0, none⟩) 1 1) (hl : n < 100) (hB : B ≤ w0.heap.size)
    (h : ∀ v' w', w'.ownsRow B 22 1 v' (n + 1) (uv (l ++ [c])) → (w0.alloc (.cells #[.int .u64 c] 22)).grownBy w' v.ownBlock → wpList Tryd.prog ops Q rest (a.put o.dst v') w') : wpList Tryd.prog ops Q (o :: rest) a (w0.alloc (.cells #[.int .u64 c] 22)) := by
  obtain ⟨i0, hi, hz0, hz1, hz2⟩ := info_parts info22all
  refine wpList_append_own _ hgd sl xx 65 ho B 22 i0 (.int .u64 0) 1 8 Tryd.underlying65 hi hz0 hz1 hz2 rfl (by decide) v n _ hs (hown.alloc _) ⟨w0.heap.size, 0, none⟩ 1 1 [.int .u64 c] hx rfl (cell_one_new _ _ _) (fun u hu => by simp at hu; subst hu; rfl) (by unfold maxLen; omega) (by omega) (by simp; omega) ?_
  intro v' w' h1 h2 _
  refine h v' w' ?_ h2
  have e : uv (l ++ [c]) = uv l ++ [.int .u64 c] := by simp [uv]
  rw [e]
  exact h1
theorem own_su {w : World} {B n : Nat} {v : Value} {l : List Int} (h : w.ownsRow B 22 1 v n (uv l)) : ∃ p cp, v = .slice p n cp ∧ Su w p l := by
  rcases h.2 with ⟨e, hn⟩ | ⟨g, cap, cur, e, hB, hg, h5, h6, h7, h8⟩
  · refine ⟨none, 0, by rw [e, hn], fun i hi => ?_⟩
    have := h.1
    simp [uv] at this
    omega
  · refine ⟨some ⟨g, 0, none⟩, cap, e, fun i hi => ⟨g, 0, rfl, ?_⟩⟩
    have h9 := h.cells (g := g) (by rw [e]; rfl) i (.int .u64 l[i]) (by simp [uv, hi])
    have hadd : (⟨g, 0, none⟩ : Addr).add i = ⟨g, 0 + i, none⟩ := by unfold Addr.add; split <;> simp_all
    rw [hadd] at h9
    exact h9
theorem VaR.next {w w1 w2 W3 W4 : World} {x : Inp} {k : Int} {qb qo : Nat} {L : List Int} {A j : Nat} {v v' : Value} {c : Int} (h : VaR w x k (some ⟨qb, qo, none⟩) L A (A + 1) j v w1) (hb : Below w1.heap.size w1 w2) (hs : St w2 A 27 (agn x k (L.take (j + 1))).v W3)
    (hg : (W3.alloc (.cells #[.int .u64 c] 22)).grownBy W4 v.ownBlock) (ho : W4.ownsRow (A + 1) 22 1 v' (j + 1) (uv ((L.take (j + 1)).map x.f))) (hWA : w.heap.size < A) (hq : qb < A) (hgd : (L.take (j + 1)).all (good x) = true) : VaR w x k (some ⟨qb, qo, none⟩) L A (A + 1) (j + 1) v' W4 := by
  have hown : ∀ b, b < A + 1 → some b ≠ v.ownBlock := fun b hlt e => by
    have := (h.o.lt b e.symm).1
    omega
  have h2 := h.below hb
  have hrow : ∀ b o', b < A + 1 → (W3.alloc (.cells #[.int .u64 c] 22)).heap[b]? = some o' → W4.heap[b]? = some o' := fun b o' hlt e => by
    rw [hg.block b (row_lt e) (hown b hlt)]
    exact e
  refine ⟨hrow _ _ (by omega) (row_on ((hs.oth _ (by omega)).trans h2.i) (ball _ _)), hrow _ _ (by omega) (row_on hs.row (ball _ _)), ?_, ho, ?_, ?_, hgd⟩
  · intro i hi
    obtain ⟨b, o', e, c0, c1, c2, c3⟩ := h2.s i hi
    obtain ⟨rfl, rfl⟩ := addr_inj e
    have hc : ∀ j u, w2.cell? ⟨qb, j, none⟩ = some u → W4.cell? ⟨qb, j, none⟩ = some u := fun j u hu => by
      have h3 := hs.cell (b := qb) (by omega) hu
      have h4 := ((ball W3 (.cells #[.int .u64 c] 22)).cell (cell_lt h3)).trans h3
      have h5 := hg.block qb (cell_lt h4) (hown qb (by omega))
      unfold World.cell? at h4 ⊢
      simp only [h5]
      exact h4
    exact ⟨qb, qo, rfl, hc _ _ c0, hc _ _ c1, hc _ _ c2, hc _ _ c3⟩
  · refine (btr (hs.bel _ _ h2.bel (by omega)) (ball _ _)).grown hg ?_ (fun i hi => ?_)
    · have := h2.bel.size
      have e3 := hs.siz
      simp
      omega
    · have := (h.o.lt i hi).1
      omega
  · have e3 := hs.siz
    have e4 := hg.size
    have := h2.bs
    simp at e4
    omega

set_option maxHeartbeats 4000000 in
set_option maxRecDepth 100000 in
theorem values_any (x : Inp) (hx : x.Ok) (w : World) (h0 : 1 ≤ x.k) (h4 : x.k ≤ 4) :
    Calls Tryd.prog 25 #[.agg x.v] w fun e w' => ValP x w e w' := by
  have hne : ¬ x.k = 0 := by omega
  have NA := hid (fun w => name_any x w)
  have FA := hid (fun w => fields_any x.k h0 h4 w)
  have BA := hid (fun w => bare_any x.k w)
  have VA := hid (fun t ht w => value_any x hx t ht w)
  have HIT := hid (fun t ht => in_tag (t := t) h0 h4 ht)
  have hlen := tags_len x.k
  have HMN := hid most_nn
  have HI := hid (show (w.alloc (.cells x.v 27)).heap[w.heap.size]? = some (.cells x.v 27 (0, 0)) from heap_alloc_new _ _)
  obtain ⟨k, hk⟩ : ∃ k, x.k = k := ⟨_, rfl⟩
  rw [hk] at NA FA BA HIT hlen hne
  have HK := hid hk
  clear hk h0 h4 hx
  obtain ⟨L, hL⟩ : ∃ l, tagsL k = l := ⟨_, rfl⟩
  unfold FldP at FA
  rw [hL] at HIT hlen FA
  have HP := hid (show ∀ e w', (Below w.heap.size w w' ∧
    ((¬ (L.all (good x) = true ∧ (agn x k L).v = x.v) ∧ e = .returned (.tuple #[.slice none 0 0, .int .i64 40])) ∨
     ((L.all (good x) = true ∧ (agn x k L).v = x.v) ∧ ∃ p cp, e = .returned (.tuple #[.slice p L.length cp, .int .i64 0]) ∧ Su w' p (L.map x.f)))) → ValP x w e w' by
    intro e w' h
    unfold ValP
    rw [HK.out, hL]
    exact h)
  clear hL
  unfold Inp.v iV at NA HI
  unfold Inp.v iV
  go_enter Tryd.func25, Tryd.ntmps25
  go_wp2_with (first | (go_at_call 27; refine (NA.out _).mono ?_; rintro e w2 ⟨rfl, hb⟩; have HB2 := hid hb; clear hb; refine Hid.out ?_))
  have HI2 := hid (row_on HI.out HB2.out)
  have HBW2 := hid (btr (ball _ _) HB2.out)
  clear HI HB2 NA
  refine hid ?_
  go_wp2_with (first | (go_at_call 26; refine (FA.out _).mono ?_; rintro e w3 ⟨q, cap, rfl, hS, hb⟩; have HB3 := hid hb; have HS3 := hid hS; clear hb hS; refine Hid.out ?_))
  have HI3 := hid (row_on HI2.out HB3.out)
  have HBW3 := hid (btr HBW2.out HB3.out)
  clear HI2 HBW2 HB3 FA
  refine hid ?_
  go_wp2_with (first | (go_at_call 54; refine (BA.out _).mono ?_; rintro e w4 ⟨rfl, hb⟩; have HB4 := hid hb; clear hb; refine Hid.out ?_))
  have HI5 := hid (show (w4.alloc (.cells (bareI k).v 27)).heap[w.heap.size]? = some (.cells x.v 27 (0, 0)) from row_on (row_on HI3.out HB4.out) (ball _ _))
  have HBW5 := hid (show Below w.heap.size w (w4.alloc (.cells (bareI k).v 27)) from btr (btr HBW3.out HB4.out) (ball _ _))
  have HS5 := hid (show Sf (w4.alloc (.cells (bareI k).v 27)) q k L from (HS3.out.on HB4.out).on (ball _ _))
  have HQ := hid (show 0 < L.length → ∀ b o, q = some ⟨b, o, none⟩ → b < w4.heap.size from fun h0 b o e => by
    obtain ⟨b', o', e', hc, _⟩ := HS3.out 0 h0
    rw [e'] at e
    simp at e
    rw [← e.1]
    exact Nat.lt_of_lt_of_le (cell_lt hc) HB4.out.size)
  have HWA := hid (show w.heap.size < w4.heap.size from Nat.lt_of_lt_of_le (row_lt HI3.out) HB4.out.size)
  have PK := hid (show VaR w x k q L w4.heap.size (w4.heap.size + 1) 0 (.slice none 0 0) (w4.alloc (.cells (bareI k).v 27)) from ⟨HI5.out, heap_alloc_new _ _, HS5.out, by simpa [uv] using World.ownsRow_nil _ _ 22 1, HBW5.out, by simp, by simp⟩)
  clear HI3 HBW3 HS3 HB4 HI5 HBW5 HS5 BA
  refine hid ?_
  unfold Inp.v iV
  go_wp2
  unfold Inp.v iV at PK
  obtain ⟨W5, hW5⟩ : ∃ y, w4.alloc (.cells #[.int .i64 (bareI k).ki, .int .i64 (bareI k).co, .int .u64 (bareI k).id, .int .u64 (bareI k).tg, .int .u32 (bareI k).me, .int .i64 (bareI k).si, .int .i64 (bareI k).ty, .int .i64 (bareI k).pr, .int .u64 (bareI k).qt, .int .u64 (bareI k).pe, .int .i64 (bareI k).en] 27) = y := ⟨_, rfl⟩
  obtain ⟨A, hA⟩ : ∃ y, w4.heap.size = y := ⟨_, rfl⟩
  rw [hW5, hA] at PK
  rw [hA] at HQ HWA
  rw [hW5, hA]
  clear hW5 hA
  go_loopw [7, 8] (fun v iv wr => ∃ j : Nat, j ≤ L.length ∧ iv = .int .i64 j ∧ VaR w x k q L A (A + 1) j v wr) (fun _ iv _ => L.length - (RowKit.intOf iv).toNat)
  case atStart => exact ⟨0, Nat.zero_le _, rfl, PK.out⟩
  case round =>
    obtain ⟨j, hj, rfl, hpk⟩ := hrel
    have PJ := hid hpk
    clear hpk PK
    by_cases hjl : j < L.length
    · have hjl' : (j : Int) < (L.length : Int) := by omega
      have hj0 : (0 : Int) ≤ (j : Int) := by omega
      obtain ⟨qb, qo, rfl, f0, _, _, _⟩ := PJ.out.s j hjl
      have HAG := hid (agn_step x k L j hjl)
      have HTK := hid (List.take_succ_eq_append_getElem hjl)
      have HT := hid (HIT.out L[j] (List.getElem_mem hjl))
      have HGF := hid (show good x L[j] = false → L.all (good x) = false from fun h => by
        rw [List.all_eq_false]
        exact ⟨L[j], List.getElem_mem hjl, by simp [h]⟩)
      obtain ⟨t, ht⟩ : ∃ t, L[j] = t := ⟨_, rfl⟩
      rw [ht] at f0 HAG HT HTK HGF
      have VL := hid (fun w => VA.out t HT.out w)
      obtain ⟨c0, c1, c2, c3, c4, c5, c6, c7, c8, c9, c10⟩ := cells_I PJ.out.i
      unfold Inp.v iV at VL
      have WI := hid (fun w => with_any (agn x k (L.take j)) t (x.f t) HT.out w)
      unfold Inp.v iV at WI
      cases hok : x.okV t with
      | false =>
        rw [hok] at VL
        go_wp2
        go_region_with (first | (go_at_call 55; refine (VL.out wr.drew).mono ?_; rintro e w1 ⟨rfl, hb⟩; have HB1 := hid hb; clear hb))
        all_goals
          have P1 := hid (PJ.out.drew.below (w' := w1) HB1.out)
          obtain ⟨_, _, he1, g0, g1, _, _⟩ := P1.out.s j hjl
          obtain ⟨rfl, rfl⟩ := addr_inj he1
          rw [ht] at g0 g1
          clear HB1 he1 c0 c1 c2 c3 c4 c5 c6 c7 c8 c9 c10 f0

          go_wp2
          go_ret2
          exact HP.out _ _ ⟨P1.out.bel, Or.inl ⟨bad_of (HGF.out (by simp [good, hok])), rfl⟩⟩

      | true =>
        rw [hok] at VL
        by_cases hm0 : 0 < most t
        · by_cases hle : x.f t ≤ most t
          · have hgd : good x t = true := by simp [good, hok, hle]
            go_wp2
            go_region_with (first | (go_at_call 55; refine (VL.out wr.drew).mono ?_; rintro e w1 ⟨rfl, hb⟩; have HB1 := hid hb; clear hb))
            all_goals
              have P1 := hid (PJ.out.drew.below (w' := w1) HB1.out)
              obtain ⟨_, _, he1, g0, g1, _, _⟩ := P1.out.s j hjl
              obtain ⟨rfl, rfl⟩ := addr_inj he1
              rw [ht] at g0 g1
              clear HB1 he1 c0 c1 c2 c3 c4 c5 c6 c7 c8 c9 c10 f0

              obtain ⟨d0, d1, d2, d3, d4, d5, d6, d7, d8, d9, d10⟩ := cells_I P1.out.a
              go_wp2
              go_region_with (first | (go_at_call 56; refine (WI.out w1.drew).mono ?_; rintro e w2 ⟨rfl, hb⟩; have HR2 := hid (show w2.heap[A]? = some (.cells (agn x k (L.take j)).v 27 (0, 0)) from row_on (w := w1.drew) P1.out.a hb); obtain ⟨e0, e1, e2, e3, e4, e5, e6, e7, e8, e9, e10⟩ := cells_I HR2.out; obtain ⟨z0, z1, z2, z3, z4, z5, z6, z7, z8, z9, z10⟩ := frz_I HR2.out; have HB2 := hid hb; clear hb))
              all_goals
                obtain ⟨W3, hW3, hST⟩ := st11 w2 A _ ((agn x k (L.take j)).set t (x.f t)) HR2.out
                rw [← HAG.out] at hST
                have HST := hid hST
                have HO3 := hid ((P1.out.drew.below HB2.out).o.kept hST.grown (Or.inr (fun e => by have := (P1.out.o.lt A e).1; omega)))
                have hB3 : A + 1 ≤ W3.heap.size := by have h1 := (P1.out.drew.below HB2.out).bs; have h2 := hST.siz; omega
                clear hST z0 z1 z2 z3 z4 z5 z6 z7 z8 z9 z10 e0 e1 e2 e3 e4 e5 e6 e7 e8 e9 e10 d0 d1 d2 d3 d4 d5 d6 d7 d8 d9 d10 HR2
                rw [hW3]
                clear hW3
                go_wp2_with (first | (at_builtin; refine own_app W3 (by rfl) (.tmp 62) (.tmp 64) (by rfl) (A + 1) _ _ j (by rfl) HO3.out (x.f t) (by rfl) (by omega) hB3 ?_; intro v4 w5 ho5 hg5; have HO5 := hid ho5; have HG5 := hid hg5; clear ho5 hg5; refine Hid.out ?_))
                have PN := hid (show VaR w x k (some ⟨qb, qo, none⟩) L A (A + 1) (j + 1) v4 w5 from P1.out.drew.next HB2.out HST.out HG5.out (by rw [HTK.out]; simpa [List.map_append] using HO5.out) HWA.out (HQ.out (by omega) _ _ rfl) (by rw [HTK.out, List.all_append, P1.out.g]; simp [hgd]))
                clear HO5 HG5 HST HO3 P1 HB2
                refine hid ?_
                go_wp2
                go_roundw
                case rel => exact ⟨j + 1, by omega, by go_num, PN.out⟩
                case measure => simp [RowKit.intOf]; omega

          · have hlt : most t < x.f t := by omega
            go_wp2
            go_region_with (first | (go_at_call 55; refine (VL.out wr.drew).mono ?_; rintro e w1 ⟨rfl, hb⟩; have HB1 := hid hb; clear hb))
            all_goals
              have P1 := hid (PJ.out.drew.below (w' := w1) HB1.out)
              obtain ⟨_, _, he1, g0, g1, _, _⟩ := P1.out.s j hjl
              obtain ⟨rfl, rfl⟩ := addr_inj he1
              rw [ht] at g0 g1
              clear HB1 he1 c0 c1 c2 c3 c4 c5 c6 c7 c8 c9 c10 f0

              go_wp2
              go_ret2
              exact HP.out _ _ ⟨P1.out.bel, Or.inl ⟨bad_of (HGF.out (by simp only [good, hok, Bool.true_and, Bool.or_eq_false_iff, decide_eq_false_iff_not]; omega)), rfl⟩⟩

        · have hgd : good x t = true := by simp only [good, hok, Bool.true_and, Bool.or_eq_true, decide_eq_true_eq]; exact Or.inl (by have := HMN.out t; omega)
          go_wp2
          go_region_with (first | (go_at_call 55; refine (VL.out wr.drew).mono ?_; rintro e w1 ⟨rfl, hb⟩; have HB1 := hid hb; clear hb))
          all_goals
            have P1 := hid (PJ.out.drew.below (w' := w1) HB1.out)
            obtain ⟨_, _, he1, g0, g1, _, _⟩ := P1.out.s j hjl
            obtain ⟨rfl, rfl⟩ := addr_inj he1
            rw [ht] at g0 g1
            clear HB1 he1 c0 c1 c2 c3 c4 c5 c6 c7 c8 c9 c10 f0

            obtain ⟨d0, d1, d2, d3, d4, d5, d6, d7, d8, d9, d10⟩ := cells_I P1.out.a
            go_wp2
            go_region_with (first | (go_at_call 56; refine (WI.out w1.drew).mono ?_; rintro e w2 ⟨rfl, hb⟩; have HR2 := hid (show w2.heap[A]? = some (.cells (agn x k (L.take j)).v 27 (0, 0)) from row_on (w := w1.drew) P1.out.a hb); obtain ⟨e0, e1, e2, e3, e4, e5, e6, e7, e8, e9, e10⟩ := cells_I HR2.out; obtain ⟨z0, z1, z2, z3, z4, z5, z6, z7, z8, z9, z10⟩ := frz_I HR2.out; have HB2 := hid hb; clear hb))
            all_goals
              obtain ⟨W3, hW3, hST⟩ := st11 w2 A _ ((agn x k (L.take j)).set t (x.f t)) HR2.out
              rw [← HAG.out] at hST
              have HST := hid hST
              have HO3 := hid ((P1.out.drew.below HB2.out).o.kept hST.grown (Or.inr (fun e => by have := (P1.out.o.lt A e).1; omega)))
              have hB3 : A + 1 ≤ W3.heap.size := by have h1 := (P1.out.drew.below HB2.out).bs; have h2 := hST.siz; omega
              clear hST z0 z1 z2 z3 z4 z5 z6 z7 z8 z9 z10 e0 e1 e2 e3 e4 e5 e6 e7 e8 e9 e10 d0 d1 d2 d3 d4 d5 d6 d7 d8 d9 d10 HR2
              rw [hW3]
              clear hW3
              go_wp2_with (first | (at_builtin; refine own_app W3 (by rfl) (.tmp 62) (.tmp 64) (by rfl) (A + 1) _ _ j (by rfl) HO3.out (x.f t) (by rfl) (by omega) hB3 ?_; intro v4 w5 ho5 hg5; have HO5 := hid ho5; have HG5 := hid hg5; clear ho5 hg5; refine Hid.out ?_))
              have PN := hid (show VaR w x k (some ⟨qb, qo, none⟩) L A (A + 1) (j + 1) v4 w5 from P1.out.drew.next HB2.out HST.out HG5.out (by rw [HTK.out]; simpa [List.map_append] using HO5.out) HWA.out (HQ.out (by omega) _ _ rfl) (by rw [HTK.out, List.all_append, P1.out.g]; simp [hgd]))
              clear HO5 HG5 HST HO3 P1 HB2
              refine hid ?_
              go_wp2
              go_roundw
              case rel => exact ⟨j + 1, by omega, by go_num, PN.out⟩
              case measure => simp [RowKit.intOf]; omega

    · have hje : j = L.length := by omega
      subst hje
      have hp := PJ.out
      obtain ⟨ha, hg, ho⟩ := And.intro hp.a (And.intro hp.g hp.o)
      rw [List.take_length (l := L)] at ha hg ho
      have HG := hid hg
      have HO := hid ho
      have HBE := hid hp.bel
      obtain ⟨c0, c1, c2, c3, c4, c5, c6, c7, c8, c9, c10⟩ := cells_I hp.i
      obtain ⟨d0, d1, d2, d3, d4, d5, d6, d7, d8, d9, d10⟩ := cells_I ha
      clear hp hg ho ha PJ
      by_cases hto : (agn x k L).v = x.v
      · have q := eqI_yes (agn x k L).ki (agn x k L).co (agn x k L).id (agn x k L).tg (agn x k L).me (agn x k L).si (agn x k L).ty (agn x k L).pr (agn x k L).qt (agn x k L).pe (agn x k L).en x.ki x.co x.id x.tg x.me x.si x.ty x.pr x.qt x.pe x.en hto
        unfold iV at q
        have HTO := hid hto
        clear hto
        go_wp2
        go_ret2
        obtain ⟨p, cp, hv, hsu⟩ := own_su HO.out
        refine HP.out _ _ ⟨HBE.out, Or.inr ⟨⟨HG.out, HTO.out⟩, p, cp, ?_, hsu⟩⟩
        simp [hv]
      · have q := eqI_no (agn x k L).ki (agn x k L).co (agn x k L).id (agn x k L).tg (agn x k L).me (agn x k L).si (agn x k L).ty (agn x k L).pr (agn x k L).qt (agn x k L).pe (agn x k L).en x.ki x.co x.id x.tg x.me x.si x.ty x.pr x.qt x.pe x.en hto
        unfold iV at q
        have HTO := hid hto
        clear hto
        go_wp2
        go_ret2
        exact HP.out _ _ ⟨HBE.out, Or.inl ⟨fun h => HTO.out h.2, rfl⟩⟩
end Go.Proofs.YtacdjioieclggaaDoor.Msg
namespace Go.Proofs.YtacdjioieclggaaDoor.Msg
open Go.RowKit Go.Maps Go.Deep Go.Lib
set_option linter.unusedVariables false
set_option linter.unusedSimpArgs false
theorem good_eq (x : Inp) (hx : x.Ok) (hr : x.Rg) (t : Int) (ht : InTag t) : good x t = decide (x.f t ≤ bnd t) := by
  obtain ⟨⟨a1, a2⟩, ⟨b1, b2⟩, ⟨c1, c2⟩, ⟨d1, d2⟩, ⟨e1, e2⟩⟩ := hx
  obtain ⟨⟨s1, s2⟩, ⟨t1, t2⟩, ⟨p1, p2⟩, ⟨n1, n2⟩⟩ := hr
  rcases ht with rfl | rfl | rfl | rfl | rfl | rfl | rfl | rfl | rfl
  all_goals simp [good, Inp.okV, most, bnd, Inp.f, inF, upd, u64]
  all_goals omega
theorem all_eq (x : Inp) (hx : x.Ok) (hr : x.Rg) (k : Int) (h1 : 1 ≤ k) (h4 : k ≤ 4) : (tagsL k).all (good x) = inB (tagsL k) x.f := by
  unfold inB
  have h : ∀ t ∈ tagsL k, good x t = decide (x.f t ≤ bnd t) := fun t ht => good_eq x hx hr t (in_tag h1 h4 ht)
  generalize tagsL k = L at h
  induction L with
  | nil => rfl
  | cons a L ih =>
    rw [List.all_cons, List.all_cons, h a (by simp), ih (fun t ht => h t (by simp [ht]))]
theorem vl_iff (y x : Inp) : y.v = x.v ↔ y.l = x.l := by
  unfold Inp.v iV Inp.l
  simp
theorem agn_l (x : Inp) (k : Int) (h1 : 1 ≤ k) (h4 : k ≤ 4) : (agn x k (tagsL k)).l = iL k (only (tagsL k) x.f) := by
  obtain rfl | rfl | rfl | rfl : k = 1 ∨ k = 2 ∨ k = 3 ∨ k = 4 := by omega
  all_goals simp [agn, tagsL, bareI, Inp.set, iL, only, Inp.l]
  all_goals simp [u32, s64, wrap64]
theorem told_iff (x : Inp) (hx : x.Ok) (hr : x.Rg) (h1 : 1 ≤ x.k) (h4 : x.k ≤ 4) : ((tagsL x.k).all (good x) = true ∧ (agn x x.k (tagsL x.k)).v = x.v) ↔ x.told = true := by
  rw [all_eq x hx hr x.k h1 h4, vl_iff, agn_l x x.k h1 h4]
  unfold Inp.told Inp.F
  simp
end Go.Proofs.YtacdjioieclggaaDoor.Msg
namespace Go.Proofs.YtacdjioieclggaaDoor.Msg
open Go.RowKit Go.Maps Go.Deep Go.Lib
set_option linter.unusedVariables false
set_option linter.unusedSimpArgs false
theorem values_zero (x : Inp) (w : World) (h : x.k = 0) : Calls Tryd.prog 25 #[.agg x.v] w fun e w' => e = .returned (.tuple #[.slice none 0 0, .int .i64 41]) ∧ Below w.heap.size w w' := by
  have NA := hid (fun w => name_any x w)
  rw [h] at NA
  clear h
  unfold Inp.v iV at *
  go_enter Tryd.func25, Tryd.ntmps25
  go_wp2_with (first | (go_at_call 27; refine (NA.out _).mono ?_; rintro e w2 ⟨rfl, hb⟩; have HB2 := hid hb; clear hb; refine Hid.out ?_))
  refine hid ?_
  go_wp2
  go_ret2
  exact ⟨rfl, btr (ball _ _) HB2.out⟩
theorem values_bad (x : Inp) (hx : x.Ok) (hr : x.Rg) (w : World) (h : ¬ x.e = 0) : Calls Tryd.prog 25 #[.agg x.v] w fun e w' => e = .returned (.tuple #[.slice none 0 0, .int .i64 x.e]) ∧ Below w.heap.size w w' := by
  by_cases h0 : x.k = 0
  · have : x.e = 41 := by unfold Inp.e; rw [if_pos h0]
    rw [this]
    exact values_zero x w h0
  · obtain ⟨h1, h4⟩ := k_range x h0
    have ht : x.told = false := by
      cases ht : x.told
      · rfl
      · exfalso; apply h; unfold Inp.e; rw [if_neg h0, ht]; rfl
    have he : x.e = 40 := by unfold Inp.e; rw [if_neg h0, ht]; rfl
    rw [he]
    refine (values_any x hx w h1 h4).mono ?_
    rintro e w' ⟨hb, ⟨_, rfl⟩ | ⟨hy, _⟩⟩
    · exact ⟨rfl, hb⟩
    · rw [told_iff x hx hr h1 h4, ht] at hy; cases hy
theorem values_ok (x : Inp) (hx : x.Ok) (hr : x.Rg) (w : World) (h : x.e = 0) : Calls Tryd.prog 25 #[.agg x.v] w fun e w' => ∃ p cp, e = .returned (.tuple #[.slice p (tagsL x.k).length cp, .int .i64 0]) ∧ Su w' p ((tagsL x.k).map x.f) ∧ Below w.heap.size w w' := by
  obtain ⟨h0, ht⟩ := e_zero x h
  obtain ⟨h1, h4⟩ := k_range x h0
  refine (values_any x hx w h1 h4).mono ?_
  rintro e w' ⟨hb, ⟨hn, _⟩ | ⟨_, p, cp, rfl, hs⟩⟩
  · exact absurd ((told_iff x hx hr h1 h4).2 ht) hn
  · exact ⟨p, cp, rfl, hs, hb⟩
end Go.Proofs.YtacdjioieclggaaDoor.Msg
