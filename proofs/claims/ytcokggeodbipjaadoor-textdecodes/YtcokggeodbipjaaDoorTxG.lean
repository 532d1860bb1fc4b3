/-
  TextValues' walk.
-/
import Derived.Test.YtcokggeodbipjaaDoorTxE
import Derived.Test.YtcokggeodbipjaaDoorTxF
import Derived.Test.YtcokggeodbipjaaDoorTxC
namespace Go.Proofs.YtcokggeodbipjaaDoor
open Go.RowKit Go.Deep Go.Lib Go.Shelf Go.Sort
set_option linter.unusedVariables false

theorem num_five : num [53] = some 5 := by
  have h := num_dec 5 (by decide)
  rw [decDigits_one (by decide)] at h
  exact h
theorem btr {B : Nat} {a b c : World} (h : Below B a b) (hB : B ≤ b.heap.size) (k : Below b.heap.size b c) : Below B a c := h.trans (k.mono hB)
theorem btr' {a b c : World} (h : Below a.heap.size a b) (k : Below b.heap.size b c) : Below a.heap.size a c := btr h h.size k
theorem ball (w : World) (o : Obj) : Below w.heap.size w (w.alloc o) := (Below.refl _ _).alloc (Nat.le_refl _) _

set_option maxHeartbeats 1000000 in
set_option maxRecDepth 100000 in
theorem values_walk (l : List (Int × List UInt8)) (q : Option Addr) (cap : Nat) (tag : Int) (w : World) (hT : Tg w q cap l) (hl : l.length * 24 ≤ 140737488355328) (hs : ∀ x ∈ l, x.2.length ≤ 281474976710656) (hL : LayE w) :
    Calls Tryd.prog 4 #[.slice q l.length cap, .int .i64 tag] w fun e w' => e = .returned (.bool true) ∧ Below w.heap.size w w' := by
  have HT := hid hT
  have HL := hid hL
  have HS := hid hs
  have HB0 := hid (ball w (.cells #[] 28))
  have HO := hid (show (w.alloc (.cells #[] 28)).ownsRow w.heap.size 28 2 (.slice (some ⟨w.heap.size, 0, none⟩) 0 0) 0 (tv []) from World.ownsRow_made (base := w.heap.size) (e := 28) (size := 2) w #[] 0 (Nat.le_refl _) (Nat.zero_le _) rfl)
  have HT0 := hid (hT.on HB0.out)
  have C5 := hid (fun (w1 : World) (b cap : Nat) h0 h1 hL => one_call 1 [53] (by decide) cap b w1 h0 h1 hL)
  rw [numOf_one, num_five, numEnd] at C5
  have hll : l.length < 9223372036854775808 := by omega
  clear hT hL hs
  obtain ⟨A, hA⟩ : ∃ A, (val? l tag).getD [] = A := ⟨_, rfl⟩
  obtain ⟨A2, hA2⟩ : ∃ A, (val? l tag).isSome = A := ⟨_, rfl⟩
  obtain ⟨A3, hA3⟩ : ∃ A, (numOf l tag).1 = A := ⟨_, rfl⟩
  obtain ⟨A4, hA4⟩ : ∃ A, (numOf l tag).2 = A := ⟨_, rfl⟩
  have V1 := hid (fun q cap w hT => value_any l q cap tag w hll hT)
  have V2 := hid (fun q cap w hT => rvalue_any l q cap tag w hll hT)
  have V3 := hid (fun q cap w hT hL => tnumber_any l q cap tag w hll HS.out hT hL)
  have V4 := hid (fun q cap w hT => rnumber_any l q cap tag w hll HS.out hT)
  simp only [hA, hA2, hA3, hA4] at V1 V2 V3 V4
  clear hA hA2 hA3 hA4
  go_enter Tryd.func4, Tryd.ntmps4
  go_wp2_with (first | (at_builtin; refine wpList_append_tags _ (by rfl) (.tmp 16) (.tmp 17) (by rfl) w.heap.size w.heap.size 0 0 [] (by rfl) HO.out q cap l.length l rfl (by rfl) HT0.out (by omega) HB0.out.size l.length l (by simp) rfl ?_; intro g1 c1 w1 hown1 hb1; have M1 := hid (ts_own rfl hown1); have HB1 := hid (HB0.out.trans hb1); clear hown1 hb1) | (go_at_call 11; refine (V1.out _ _ _ M1.out).mono ?_; rintro e w2 ⟨rfl, hb⟩; have M2 := hid (M1.out.on hb); have HB2 := hid (btr' HB1.out hb); clear hb) | (go_at_call 12; refine (V2.out _ _ _ (HT.out.on HB2.out).1).mono ?_; rintro e w2x ⟨rfl, rfl⟩) | (go_at_call 10; refine (V3.out _ _ _ M2.out (HL.out.on HB2.out)).mono ?_; rintro e w3 ⟨rfl, hb⟩; have M3 := hid (M2.out.on hb); have HB3 := hid (btr' HB2.out hb); clear hb) | (go_at_call 13; refine (V4.out _ _ _ (HT.out.on HB3.out).1).mono ?_; rintro e w3x ⟨rfl, rfl⟩; refine Hid.out ?_))
  refine Lib.hid ?_
  go_wp2_with (first | (go_at_call 10; refine (C5.out _ _ _ (by go_simp) (by go_simp; try rfl) (HL.out.on HB3.out |>.alloc _)).mono ?_; rintro e w4 ⟨rfl, hb⟩; have M4 := hid (M3.out.on (btr' (ball _ _) hb)); have HB4 := hid (btr' HB3.out (btr' (ball _ _) hb)); clear hb) | (go_at_call 14; refine (tags_same l _ _ _ _ _ hll M4.out (HT.out.on HB4.out).1).mono ?_; rintro e w5 ⟨rfl, hb⟩; have HB5 := hid (btr' HB4.out hb); clear hb))
  all_goals (go_ret; refine ⟨?_, HB5.out⟩; first | rfl | simp)
end Go.Proofs.YtcokggeodbipjaaDoor
