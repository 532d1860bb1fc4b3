/-
  The document's Decimal, Kind, isTag, there, isValue, field, three.
-/
import Derived.Test.YtcokggeodbipjaaDoorTxL
import Derived.Deep.RegionWith
namespace Go.Proofs.YtcokggeodbipjaaDoor
open Go.RowKit Go.Deep Go.Lib Go.Shelf Go.Sort
set_option linter.unusedVariables false

theorem run_conv1 (w : World) (b : Nat) (c : UInt8) (h : w.cell? ⟨b, 0, none⟩ = some (.int .u8 (c.toNat : Int))) :
    (convert 35 9 (.slice (some ⟨b, 0, none⟩) 1 1)).run Tryd.prog w = .ok (.string ⟨#[c]⟩) w :=
  run_convert_bytes_back (P := Tryd.prog) w 35 9 5 ⟨b, 0, none⟩ 1 [c] Tryd.underlying35 Tryd.underlying5 Tryd.underlying9 (fun j hj => by
    obtain rfl : j = 0 := by simpa using hj
    rw [Addr.add_mid]
    simpa using h)
theorem cell_newD {w w1 : World} {cs : Array Value} {T : TypeId} (j : Nat) {u : Value} (hb : Below (w.alloc (.cells cs T)).drew.heap.size (w.alloc (.cells cs T)).drew w1) (h : cs[j]? = some u) : w1.cell? ⟨w.heap.size, j, none⟩ = some u :=
  cell_new j (w := w) (cs := cs) (T := T) ⟨hb.os, hb.tape, hb.output, hb.size, hb.block⟩ h
set_option maxRecDepth 100000 in
theorem rdec_small (n : Nat) (h : n < 10) (w : World) :
    Calls Tryd.prog 21 #[.int .u64 n] w fun e w' => e = .returned (.string ⟨(decDigits n).toArray⟩) ∧ Below w.heap.size w w' := by
  rw [decDigits_one h]
  have hc : (UInt8.ofNat (48 + n)).toNat = 48 + n := by simp; omega
  obtain ⟨d, hd⟩ : ∃ d, UInt8.ofNat (48 + n) = d := ⟨_, rfl⟩
  rw [hd] at hc ⊢
  have cv := run_conv1 (w.alloc (.cells #[.int .u8 (48 + (n : Int))] 5)) w.heap.size d (by rw [World.cell?_alloc_new, hc]; simp)
  have hw1 : IntKind.u8.wrap (48 + (n : Int)) = 48 + (n : Int) := by rw [IntKind.wrap_u8]; omega
  clear hc hd
  go_enter Tryd.func21, Tryd.ntmps21
  go_wp2
  go_ret
  exact ⟨rfl, ball _ _⟩
set_option maxHeartbeats 1000000 in
set_option maxRecDepth 100000 in
theorem rdec_big (n : Nat) (h : ¬ n < 10) (hn : n < 18446744073709551616) (w : World)
    (ih : ∀ w, Calls Tryd.prog 21 #[.int .u64 ((n / 10 : Nat) : Int)] w fun e w' => e = .returned (.string ⟨(decDigits (n / 10)).toArray⟩) ∧ Below w.heap.size w w') :
    Calls Tryd.prog 21 #[.int .u64 n] w fun e w' => e = .returned (.string ⟨(decDigits n).toArray⟩) ∧ Below w.heap.size w w' := by
  have hlen := decDigits_length (n / 10)
  have h20 := nDigits_le20 (n / 10) (by omega)
  rw [decDigits, dif_neg h]
  have hc : (UInt8.ofNat (48 + n % 10)).toNat = 48 + n % 10 := by simp; omega
  obtain ⟨d, hd⟩ : ∃ d, UInt8.ofNat (48 + n % 10) = d := ⟨_, rfl⟩
  obtain ⟨D, hD⟩ : ∃ D, decDigits (n / 10) = D := ⟨_, rfl⟩
  rw [hd] at hc ⊢
  rw [hD] at ih hlen ⊢
  have hDl : D.length ≤ 20 := by omega
  have IH := hid ih
  rw [show ((n / 10 : Nat) : Int) = (n : Int) / 10 by omega] at IH
  have h10 : ¬ ((n : Int) < 10) := by omega
  have HDC := hid (show (d.toNat : Int) = 48 + (n : Int) % 10 by rw [hc]; omega)
  have CV := hid (fun (w' : World) (b : Nat) (h : w'.cell? ⟨b, 0, none⟩ = some (.int .u8 (48 + (n : Int) % 10))) => run_conv1 w' b d (by rw [h, HDC.out]))
  have cvA := CV.out (w.alloc (.cells #[.int .u8 (48 + (n : Int) % 10)] 5)).drew w.heap.size (cell_newD 0 (Below.refl _ _) rfl)
  have htm : (n : Int).tmod 10 = (n : Int) % 10 := Int.tmod_eq_emod_of_nonneg (by omega)
  have hwq : IntKind.u64.wrap ((n : Int) / 10) = (n : Int) / 10 := by rw [IntKind.wrap_u64]; omega
  have hwr : IntKind.u64.wrap ((n : Int) % 10) = (n : Int) % 10 := by rw [IntKind.wrap_u64]; omega
  have hw0 : IntKind.u64.wrap (48 + (n : Int) % 10) = 48 + (n : Int) % 10 := by rw [IntKind.wrap_u64]; omega
  have hw1 : IntKind.u8.wrap (48 + (n : Int) % 10) = 48 + (n : Int) % 10 := by rw [IntKind.wrap_u8]; omega
  have hcat : (⟨D.toArray⟩ : ByteArray) ++ ⟨#[d]⟩ = ⟨(D ++ [d]).toArray⟩ := ba_append D [d]
  clear hc hd hD hlen h20 ih h
  go_enter Tryd.func21, Tryd.ntmps21
  go_wp2
  go_region_with (first | (go_at_call 21; refine (IH.out _).mono ?_; rintro e wx ⟨rfl, hbk⟩; have HK := hid (show Below w.heap.size w wx from (by first | exact btr' (Below.drew (Below.refl _ _)) hbk | exact btr' (ball _ _).drew hbk)); (have cvB := CV.out (wx.alloc (.cells #[.int .u8 (48 + (n : Int) % 10)] 5)) wx.heap.size (by rw [World.cell?_alloc_new]; rfl)); (try (have cvC := CV.out wx w.heap.size (cell_newD 0 hbk rfl))); clear hbk))
  all_goals
    go_wp2
    go_ret
    exact ⟨rfl, by first | exact HK.out | exact HK.out.alloc HK.out.size _⟩
theorem rdecimal_any : ∀ (n : Nat), n < 18446744073709551616 → ∀ w, Calls Tryd.prog 21 #[.int .u64 n] w fun e w' => e = .returned (.string ⟨(decDigits n).toArray⟩) ∧ Below w.heap.size w w' := by
  intro n
  induction n using Nat.strongRecOn with
  | _ n ih =>
    intro hn w
    by_cases h : n < 10
    · exact rdec_small n h w
    · exact rdec_big n h hn w (fun w => ih (n / 10) (by omega) (by omega) w)
end Go.Proofs.YtcokggeodbipjaaDoor
