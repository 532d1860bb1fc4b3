/-
  IndexTidy, whatever comes in.
-/
import Derived.Test.YthidnipmkffilaaArgsS
import Derived.Test.YthidnipmkffilaaIxP
import Derived.Test.YthidnipmkffilaaIxTid
namespace Go.Proofs.Ythidnipmkffilaa
open Go.RowKit Go.Deep
set_option linter.unusedVariables false
set_option linter.unusedSimpArgs false
/-- what stands between two steps. -/
structure Bt (w : World) (X P n room : Nat) (wr : World) : Prop where
  ex : ∃ T, Lx wr X P n room T ∧ Ix.Tidy n (hm n) T
  bel : Below w.heap.size w wr
  ltX : w.heap.size ≤ X
  ltP : w.heap.size ≤ P
theorem Bt.put {w : World} {X P n room : Nat} {wr wq : World} (h : Bt w X P n room wr) {T : Ix.Tab} (hL : Lx wq X P n room T) (ht : Ix.Tidy n (hm n) T) (hk : Kp (fun b => b = X ∨ b = P) wr wq) : Bt w X P n room wq :=
  ⟨⟨T, hL, ht⟩, h.bel.trans (hk.below h.bel.size (fun g hg => by have := h.ltX; have := h.ltP; omega)), h.ltX, h.ltP⟩
theorem Bt.step {w : World} {X P n room : Nat} {wr wq : World} (h : Bt w X P n room wr) (hk : Kp (fun _ => False) wr wq) : Bt w X P n room wq := by
  obtain ⟨T, hL, ht⟩ := h.ex
  exact h.put (hL.kp hk (fun h => h) (fun h => h)) ht (hk.mono (fun _ _ h => h.elim))
set_option maxHeartbeats 1000000 in
set_option maxRecDepth 100000 in
theorem tidyW_bad {room : Int} (h : room < 1 ∨ 65536 < room) (q : Option Addr) (cap m : Nat) (w : World) :
    Calls Try.prog 7 #[.int .i64 room, .slice q m cap] w fun e w' => e = .returned (.bool true) ∧ Below w.heap.size w w' := by
  have hN := new_bad h w
  have HLV := hid (lives_any w)
  by_cases h1 : room < 1
  · clear h
    go_enter Try.func7, Try.ntmps7
    go_wp2_with (first | (go_at_call 17; with_reducible refine hN.mono ?_; rintro e w9 ⟨rfl, h9⟩; subst w9) | (go_at_call 18; with_reducible refine (HLV.out).mono ?_; rintro e w9 ⟨rfl, hb⟩; have HB := hid hb; clear hb; refine Hid.out ?_))
    refine hid ?_
    go_wp2_with fail
    go_ret
    exact ⟨rfl, HB.out⟩
  · have h2 : 65536 < room := by omega
    clear h
    go_enter Try.func7, Try.ntmps7
    go_wp2_with (first | (go_at_call 17; with_reducible refine hN.mono ?_; rintro e w9 ⟨rfl, h9⟩; subst w9) | (go_at_call 18; with_reducible refine (HLV.out).mono ?_; rintro e w9 ⟨rfl, hb⟩; have HB := hid hb; clear hb; refine Hid.out ?_))
    refine hid ?_
    go_wp2_with fail
    go_ret
    exact ⟨rfl, HB.out⟩
set_option maxHeartbeats 4000000 in
set_option maxRecDepth 100000 in
theorem tidyW_any {room : Nat} (h1 : 1 ≤ room) (h2 : room ≤ 65536) {w : World} (q : Option Addr) (cap : Nat) (l : List StV) (hV : Stz w q l) (hb : ∀ x ∈ l, 0 ≤ x.k ∧ x.k ≤ 18446744073709551615) (hm : l.length ≤ maxLen) :
    Calls Try.prog 7 #[.int .i64 room, .slice q l.length cap] w fun e w' => e = .returned (.bool true) ∧ Below w.heap.size w w' := by
  have HN := hid (new_any h1 h2 w)
  have HV := hid hV
  have HBD := hid hb
  unfold maxLen at hm
  clear hV hb h1 h2
  go_enter Try.func7, Try.ntmps7
  go_wp2_with (first | (go_at_call 17; with_reducible refine (HN.out).mono ?_; rintro e w1 ⟨X, P, rfl, hL, hX, hP, hB⟩; have HB := hid (Bt.mk ⟨_, hL, Ix.tidy_nil _ _⟩ hB hX hP); clear hL hB hX hP; refine Hid.out ?_))
  clear HN
  obtain ⟨n, hn⟩ : ∃ n, pn room = n := ⟨_, rfl⟩
  rw [hn] at HB
  clear hn
  refine hid ?_
  go_wp2_with fail
  go_loopw [7] (fun iv wr => ∃ i : Nat, i ≤ l.length ∧ iv = .int .i64 i ∧ Hid (Bt w X P n room wr)) (fun iv _ => l.length - (intOf iv).toNat)
  case atStart => exact ⟨0, Nat.zero_le _, rfl, HB⟩
  case round =>
    obtain ⟨i, hi, rfl, HI⟩ := hrel
    clear HB
    by_cases hin : i < l.length
    · obtain ⟨b, off, rfl, hbl, c0, c1, c2⟩ := (HV.out.on HI.out.bel).cells hin
      obtain ⟨k0, k1⟩ := HBD.out _ (List.getElem_mem hin)
      obtain ⟨x, hx⟩ : ∃ x, l[i] = x := ⟨_, rfl⟩
      rw [hx] at c0 c1 c2 k0 k1
      obtain ⟨xd, xk, xv⟩ := x
      simp only at c0 c1 c2 k0 k1
      obtain ⟨T, hL, ht⟩ := HI.out.ex
      have f1 : (i : Int) < (l.length : Int) := by omega
      have f2 : (0 : Int) ≤ (i : Int) := by omega
      have ct1 : ((i : Int)).toNat = i := by omega
      have wj : IntKind.i64.wrap ((i : Int) + 1) = ((i + 1 : Nat) : Int) := by simp [IntKind.wrap, IntKind.bits, IntKind.signed]; omega
      have HJM := hid (show i + 1 ≤ l.length ∧ l.length - (i + 1) < l.length - i by omega)
      obtain ⟨j1, hj1⟩ : ∃ j1, i + 1 = j1 := ⟨_, rfl⟩
      rw [hj1] at wj HJM
      have cm : (i : Int) % 4 = 3 ∨ ¬ (i : Int) % 4 = 3 := by omega
      cases xd with
      | true =>
        have HD := hid (drop_any hL ht xk)
        clear hx hi hin hj1 hL ht k0 k1
        go_wp2_with (first | (go_at_call 19; with_reducible refine (HD.out).mono ?_; rintro e w2 ⟨v9, b9, T', rfl, hL, ht, hk, hR⟩; have HI2 := hid (HI.out.put hL ht hk); have HTD := hid (tidy_any hL ht); clear hL ht hk hR; refine Hid.out ?_))
        refine hid ?_
        rcases cm with cm | cm
        · have dm : (((i : Int) % 4) == 3) = true := by simpa using cm
          go_wp2_with (first | (go_at_call 22; with_reducible refine (HTD.out).mono ?_; rintro e w3 ⟨rfl, hk⟩; have HI3 := hid (HI2.out.step hk); clear hk; refine Hid.out ?_))
          refine hid ?_
          go_wp2_with fail
          go_roundw
          case rel => exact ⟨j1, HJM.out.1, rfl, HI3⟩
          case measure => simpa [intOf] using HJM.out.2
        · have dm : (((i : Int) % 4) == 3) = false := by simpa using cm
          go_wp2_with fail
          go_roundw
          case rel => exact ⟨j1, HJM.out.1, rfl, HI2⟩
          case measure => simpa [intOf] using HJM.out.2
      | false =>
        have HP := hid (fun u (hu : Lx u X P n room T) => put_any hu ht xv k0 k1)
        have HLD := hid hL.drew
        have HDW := hid (HI.out.step (Kp.drew _ _))
        have HCL := hid (show ∀ u, Below w.heap.size w u → u.cell? ⟨b, off + i * 3 + 1, none⟩ = some (.int .u64 xk) ∧ u.cell? ⟨b, off + i * 3 + 2, none⟩ = some (.int .i64 xv) from fun u hu => by
          obtain ⟨b', off', e', _, _, y1, y2⟩ := (HV.out.on hu).cells hin
          cases e'
          rw [hx] at y1 y2
          exact ⟨y1, y2⟩)
        clear hx hi hin hj1 hL ht k0 k1
        go_wp2_with fail
        go_region_held3 (fun w' => w'.cell? ⟨b, off + i * 3 + 1, none⟩ = some (.int .u64 xk) ∧ w'.cell? ⟨b, off + i * 3 + 2, none⟩ = some (.int .i64 xv)) (go_keep) (first | (go_at_call 20; with_reducible refine (HP.out _ HLD.out).mono ?_; rintro e w2 ⟨c9, T', rfl, hL, ht, hk, hR⟩; have HI2 := hid (HDW.out.put hL ht hk); have HTD := hid (tidy_any hL ht); clear hL ht hk hR; obtain ⟨y1, y2⟩ := HCL.out _ HI2.out.bel))
        refine Hid.out ?_
        refine hid ?_
        rcases cm with cm | cm
        · have dm : (((i : Int) % 4) == 3) = true := by simpa using cm
          go_wp2_with (first | (go_at_call 22; with_reducible refine (HTD.out).mono ?_; rintro e w3 ⟨rfl, hk⟩; have HI3 := hid (HI2.out.step hk); clear hk; refine Hid.out ?_))
          refine hid ?_
          go_wp2_with fail
          go_roundw
          case rel => exact ⟨j1, HJM.out.1, rfl, HI3⟩
          case measure => simpa [intOf] using HJM.out.2
        · have dm : (((i : Int) % 4) == 3) = false := by simpa using cm
          go_wp2_with fail
          go_roundw
          case rel => exact ⟨j1, HJM.out.1, rfl, HI2⟩
          case measure => simpa [intOf] using HJM.out.2
    · have hn : i = l.length := by omega
      subst hn
      obtain ⟨T, hL, ht⟩ := HI.out.ex
      have HTD := hid (tidy_any hL ht)
      have f1 : ¬ (l.length : Int) < (l.length : Int) := by omega
      clear hi hin hL ht
      go_wp2_with (first | (go_at_call 22; with_reducible refine (HTD.out).mono ?_; rintro e w3 ⟨rfl, hk⟩; have HI3 := hid (HI.out.step hk); clear hk; refine Hid.out ?_))
      have HLV := hid (lives_any w3)
      refine hid ?_
      go_wp2_with (first | (go_at_call 18; with_reducible refine (HLV.out).mono ?_; rintro e w9 ⟨rfl, hb⟩; have HB := hid hb; clear hb; refine Hid.out ?_))
      refine hid ?_
      go_wp2_with fail
      go_ret
      exact ⟨rfl, HI3.out.bel.trans (HB.out.mono HI3.out.bel.size)⟩
theorem indexTidy_walk (a : Int) (ha : -9223372036854775808 ≤ a ∧ a < 9223372036854775808) {w : World} (q : Option Addr) (cap : Nat) (l : List StV) (hV : Stz w q l) (hb : ∀ x ∈ l, 0 ≤ x.k ∧ x.k ≤ 18446744073709551615) (hm : l.length ≤ maxLen) :
    Calls Try.prog 7 #[.int .i64 a, .slice q l.length cap] w fun e w' => e = .returned (.bool true) ∧ Below w.heap.size w w' := by
  by_cases h : a < 1 ∨ 65536 < a
  · exact tidyW_bad h q cap l.length w
  · obtain ⟨r, rfl⟩ := Int.eq_ofNat_of_zero_le (show 0 ≤ a by omega)
    exact tidyW_any (by omega) (by omega) q cap l hV hb hm
end Go.Proofs.Ythidnipmkffilaa
