/-
  The document's sorted and twice. Written by mkRcG.py.
-/
import Derived.Test.YtjpkodllemoniaaDoorRcF1
namespace Go.Proofs.YtjpkodllemoniaaDoor.Sr
open Go.RowKit Go.Deep
set_option linter.unusedVariables false
set_option linter.unusedSimpArgs false
set_option maxHeartbeats 8000000
set_option maxRecDepth 100000
attribute [local go_sem ↓] Go.wp_at_zero Go.wp_at_succ
theorem bdrew1 (w : World) : Below w.heap.size w w.drew := bdw w
theorem dsorted_any (s : Int) (p : Option Addr) (c : Nat) (l : List Rt) (w : World) (hz : Ol w p l) (hn : l.length ≤ 4096) :
    Calls Tryd.prog 39 #[.int .i64 s, .slice p l.length c] w fun e w' => e = .returned (.bool (decide (SrR s l))) ∧ Below w.heap.size w w' := by
  have HZ := hid hz
  obtain ⟨n, hnl⟩ : ∃ n, l.length = n := ⟨_, rfl⟩
  obtain ⟨B, hB⟩ : ∃ B, decide (SrR s l) = B := ⟨_, rfl⟩
  have HBB := hid hB
  rw [hnl] at hn ⊢
  rw [hB]
  have HNL := hid hnl
  clear hz hnl hB
  go_enter Tryd.func39, Tryd.ntmps39
  go_upto_region 2 with fail
  go_loopw [5] (fun iv wr => ∃ (i : Nat), iv = .int .i64 i ∧ 1 ≤ i ∧ i ≤ n + 1 ∧ Hid (∀ j (h : j + 1 < l.length), j + 1 < i → bt s l[j + 1].pr l[j].pr = false) ∧ Hid (Below w.heap.size w wr)) (fun iv _ => n + 1 - (intOf iv).toNat)
  case atStart => exact ⟨1, rfl, by omega, by omega, hid (fun j _ hj => absurd hj (by omega)), hid (Below.refl _ _)⟩
  case round =>
    obtain ⟨i, rfl, i1, i2, HS, HB⟩ := hrel
    by_cases hi : i < n
    · obtain ⟨k, hk⟩ : ∃ k, k + 1 = i := ⟨i - 1, by omega⟩
      have ii : (i : Int) < (n : Int) := by omega
      have ii0 : (0 : Int) ≤ (i : Int) := by omega
      have kk0 : (0 : Int) ≤ (k : Int) := by omega
      have kk : (k : Int) < (n : Int) := by omega
      have wk : IntKind.i64.wrap ((i : Int) - 1) = (k : Int) := by rw [IntKind.wrap_i64]; omega
      have wi : IntKind.i64.wrap ((i : Int) + 1) = ((i + 1 : Nat) : Int) := by rw [IntKind.wrap_i64]; omega
      have hil : i < l.length := by rw [HNL.out]; exact hi
      have hkl : k < l.length := by rw [HNL.out]; omega
      obtain ⟨b, off, hp, -, -⟩ := HZ.out i hil
      subst hp
      have HI := hid (fun (U : World) (hU : Below w.heap.size w U) => show U.cell? ⟨b, off + i * 7 + 3, none⟩ = some (.int .i64 l[i].pr) from by
        obtain ⟨b', off', e, _, hc⟩ := (HZ.out.on hU) i hil
        injection e with e; injection e with e1 e2; subst e1 e2
        exact hc 3 (by decide))
      have HK := hid (fun (U : World) (hU : Below w.heap.size w U) => show U.cell? ⟨b, off + k * 7 + 3, none⟩ = some (.int .i64 l[k].pr) from by
        obtain ⟨b', off', e, _, hc⟩ := (HZ.out.on hU) k hkl
        injection e with e; injection e with e1 e2; subst e1 e2
        exact hc 3 (by decide))
      have HT := hid (show bt s (l[i]).pr (l[k]).pr = false → ∀ j (h : j + 1 < l.length), j + 1 < i + 1 → bt s l[j + 1].pr l[j].pr = false from fun e j hj hjk => by
        by_cases c : j = k
        · subst c; subst hk; exact e
        · exact HS.out j hj (by omega))
      have HF := hid (show bt s (l[i]).pr (l[k]).pr = true → B = false from fun e => by
        rw [← HBB.out]
        exact decide_eq_false (fun hs => by subst hk; have := hs k (by omega) hil; rw [this] at e; cases e))
      obtain ⟨p1, hp1⟩ : ∃ x, (l[i]'hil).pr = x := ⟨_, rfl⟩
      obtain ⟨p0, hp0⟩ : ∃ x, (l[k]'hkl).pr = x := ⟨_, rfl⟩
      rw [hp1] at HI HT HF
      rw [hp0] at HK HT HF
      obtain ⟨v, hv⟩ : ∃ v, bt s p1 p0 = v := ⟨_, rfl⟩
      rw [hv] at HT HF
      have CB := hid (fun U => (show Calls Tryd.prog 53 #[.int .i64 s, .int .i64 p1, .int .i64 p0] U fun e w' => e = .returned (.bool v) ∧ Below U.heap.size U w' from (dbt_any s p1 p0 U).mono fun e w' hh => ⟨by rw [hh.1, hv], by rw [hh.2]; exact Below.refl _ _⟩))
      have HI0 := hid hi
      clear hp1 hp0 hil hkl hk hv HS hi
      go_upto_region 4 with fail
      obtain ⟨V1, hV1⟩ : ∃ U, wr.drew = U := ⟨_, rfl⟩
      have bV1 := hid (show Below wr.heap.size wr V1 from by rw [← hV1]; exact bdrew1 _)
      have DV1 := hid (btr HB.out bV1.out)
      refine wp_region_held_drew (S := (fun U => U.cell? ⟨b, off + i * 7 + 3, none⟩ = some (.int .i64 p1) ∧ U.cell? ⟨b, off + k * 7 + 3, none⟩ = some (.int .i64 p0))) (by kernel_rfl) ?_ (fun hHeld => ?_)
      · (try dsimp only); rw [hV1]; exact ⟨HI.out _ DV1.out, HK.out _ DV1.out⟩
      rw [hV1] at hHeld ⊢
      clear hV1
      refine' wpAnyH_take (i := 0) (oi := _) (v := _) rfl (by kernel_rfl) (by kernel_rfl) (by kernel_rfl) (fun _ _ _ h => h) (Or.inl ⟨by kernel_rfl, ?_⟩) (by assumption) ?_
      rotate_left
      · (intro w hSw; (try dsimp only at hSw); go_simp; try (with_reducible rfl))
      try simp only [List.getElem_toArray, List.getElem_cons_succ, List.getElem_cons_zero, Act.put, List.setIfInBounds_toArray, List.set_cons_zero, List.set_cons_succ]
      refine' wpAnyH_take (i := 1) (oi := _) (v := _) rfl (by kernel_rfl) (by kernel_rfl) (by kernel_rfl) (fun _ _ _ h => h) (Or.inl ⟨by kernel_rfl, ?_⟩) (by assumption) ?_
      rotate_left
      · (intro w hSw; (try dsimp only at hSw); go_simp; try (with_reducible rfl))
      try simp only [List.getElem_toArray, List.getElem_cons_succ, List.getElem_cons_zero, Act.put, List.setIfInBounds_toArray, List.set_cons_zero, List.set_cons_succ]
      refine' wpAnyH_take (i := 2) (oi := _) (v := _) rfl (by kernel_rfl) (by kernel_rfl) (by kernel_rfl) (fun _ _ _ h => h) (Or.inl ⟨by kernel_rfl, ?_⟩) (by assumption) ?_
      rotate_left
      · (intro w hSw; (try dsimp only at hSw); go_simp; try (with_reducible rfl))
      try simp only [List.getElem_toArray, List.getElem_cons_succ, List.getElem_cons_zero, Act.put, List.setIfInBounds_toArray, List.set_cons_zero, List.set_cons_succ]
      refine' wpAnyH_take (i := 3) (oi := _) (v := _) rfl (by kernel_rfl) (by kernel_rfl) (by kernel_rfl) (fun _ _ _ h => h) (Or.inl ⟨by kernel_rfl, ?_⟩) (by assumption) ?_
      rotate_left
      · (intro w hSw; (try dsimp only at hSw); go_simp; try (with_reducible rfl))
      try simp only [List.getElem_toArray, List.getElem_cons_succ, List.getElem_cons_zero, Act.put, List.setIfInBounds_toArray, List.set_cons_zero, List.set_cons_succ]
      refine' wpAnyH_take (i := 4) (oi := _) (v := _) rfl (by kernel_rfl) (by kernel_rfl) (by kernel_rfl) (fun _ _ _ h => h) (Or.inl ⟨by kernel_rfl, ?_⟩) (by assumption) ?_
      rotate_left
      · (intro w hSw; (try dsimp only at hSw); go_simp; try (with_reducible rfl))
      try simp only [List.getElem_toArray, List.getElem_cons_succ, List.getElem_cons_zero, Act.put, List.setIfInBounds_toArray, List.set_cons_zero, List.set_cons_succ]
      refine' wpAnyH_take (i := 5) (oi := _) (v := _) rfl (by kernel_rfl) (by kernel_rfl) (by kernel_rfl) (fun _ _ _ h => h) (Or.inl ⟨by kernel_rfl, ?_⟩) (by assumption) ?_
      rotate_left
      · (intro w hSw; (try dsimp only at hSw); go_simp; try (with_reducible rfl))
      try simp only [List.getElem_toArray, List.getElem_cons_succ, List.getElem_cons_zero, Act.put, List.setIfInBounds_toArray, List.set_cons_zero, List.set_cons_succ]
      refine' wpAnyH_take (i := 6) (oi := _) (v := _) rfl (by kernel_rfl) (by kernel_rfl) (by kernel_rfl) (fun _ _ _ h => h) (Or.inl ⟨by kernel_rfl, ?_⟩) (by assumption) ?_
      rotate_left
      · (intro w hSw; (try dsimp only at hSw); go_simp; try (with_reducible rfl))
      try simp only [List.getElem_toArray, List.getElem_cons_succ, List.getElem_cons_zero, Act.put, List.setIfInBounds_toArray, List.set_cons_zero, List.set_cons_succ]
      refine' wpAnyH_take (i := 7) (oi := _) (v := _) rfl (by kernel_rfl) (by kernel_rfl) (by kernel_rfl) (fun _ _ _ h => h) (Or.inl ⟨by kernel_rfl, ?_⟩) (by assumption) ?_
      rotate_left
      · (intro w hSw; (try dsimp only at hSw); go_simp; try (with_reducible rfl))
      try simp only [List.getElem_toArray, List.getElem_cons_succ, List.getElem_cons_zero, Act.put, List.setIfInBounds_toArray, List.set_cons_zero, List.set_cons_succ]
      refine' wpAnyH_take (i := 8) (oi := _) (v := _) rfl (by kernel_rfl) (by kernel_rfl) (by kernel_rfl) (fun _ _ _ h => h) (Or.inl ⟨by kernel_rfl, ?_⟩) (by assumption) ?_
      rotate_left
      · (intro w hSw; (try dsimp only at hSw); go_simp; try (with_reducible rfl))
      try simp only [List.getElem_toArray, List.getElem_cons_succ, List.getElem_cons_zero, Act.put, List.setIfInBounds_toArray, List.set_cons_zero, List.set_cons_succ]
      refine' wpAnyH_take (i := 9) (oi := _) (v := _) rfl (by kernel_rfl) (by kernel_rfl) (by kernel_rfl) (fun _ _ _ h => h) (Or.inl ⟨by kernel_rfl, ?_⟩) (by assumption) ?_
      rotate_left
      · (intro w hSw; (try dsimp only at hSw); go_simp; try (with_reducible rfl))
      try simp only [List.getElem_toArray, List.getElem_cons_succ, List.getElem_cons_zero, Act.put, List.setIfInBounds_toArray, List.set_cons_zero, List.set_cons_succ]
      refine' wpAnyH_take (i := 10) (oi := _) (v := _) rfl (by kernel_rfl) (by kernel_rfl) (by kernel_rfl) (fun _ _ _ h => h) (Or.inl ⟨by kernel_rfl, ?_⟩) (by assumption) ?_
      rotate_left
      · (intro w hSw; (try dsimp only at hSw); go_simp; try (with_reducible rfl))
      try simp only [List.getElem_toArray, List.getElem_cons_succ, List.getElem_cons_zero, Act.put, List.setIfInBounds_toArray, List.set_cons_zero, List.set_cons_succ]
      refine' wpAnyH_take (i := 11) (oi := _) (v := _) rfl (by kernel_rfl) (by kernel_rfl) (by kernel_rfl) (fun _ _ _ h => h) (Or.inl ⟨by kernel_rfl, ?_⟩) (by assumption) ?_
      rotate_left
      · (intro w hSw; (try dsimp only at hSw); go_simp; try (with_reducible rfl))
      try simp only [List.getElem_toArray, List.getElem_cons_succ, List.getElem_cons_zero, Act.put, List.setIfInBounds_toArray, List.set_cons_zero, List.set_cons_succ]
      refine wpAnyH_ready (rs := [12]) (by kernel_rfl) (by simp) ?_
      refine (AllReadyH.cons (o := _) rfl (fun K hK => ?_) AllReadyH.nil)
      go_simp
      go_at_call 53
      with_reducible refine (CB.out V1).mono ?_
      rintro e X2 ⟨rfl, cX2⟩
      have bX2 := hid cX2
      clear cX2
      have DX2 := hid (btr DV1.out bX2.out)
      (try go_wp2_with fail)
      refine hK.out _ _ ?_ (fun hHeld => ?_)
      · (try dsimp only); exact ⟨HI.out _ DX2.out, HK.out _ DX2.out⟩
      clear hK K
      try simp only [List.getElem_toArray, List.getElem_cons_succ, List.getElem_cons_zero, Act.put, List.setIfInBounds_toArray, List.set_cons_zero, List.set_cons_succ]
      refine wpAnyH_done (by kernel_rfl) ?_ _
      have HA := hid DX2.out
      obtain ⟨V1, hV1⟩ : ∃ V, X2 = V := ⟨_, rfl⟩
      rw [hV1] at HA ⊢
      clear hV1
      cases v with
      | true =>
        have e := HF.out rfl
        subst e
        go_wp2
        go_ret
        exact ⟨rfl, HA.out⟩
      | false =>
        go_wp2
        go_roundw
        case rel => exact ⟨i + 1, by go_num, by omega, by have := HI0.out; omega, hid (HT.out rfl), HA⟩
        case measure => have := HI0.out; first | (simp [intOf]; done) | (simp [intOf]; omega)
    · have ii : ¬ (i : Int) < (n : Int) := by omega
      have di : decide ((i : Int) < (n : Int)) = false := decide_eq_false ii
      have e : B = true := by
        rw [← HBB.out]
        exact decide_eq_true (fun j h1 h2 => HS.out j h2 (by have := HNL.out; omega))
      subst e
      go_wp2
      go_ret
      exact ⟨rfl, HB.out⟩
theorem rz_id {w : World} {p : Option Addr} {l : List Rt} (h : Rz w p l) {i : Nat} (hi : i < l.length) : ∃ g, p = some ⟨g, 0, none⟩ := by
  obtain ⟨g, e, _⟩ := h i hi
  exact ⟨g, e⟩
theorem dtwice_any (p : Option Addr) (c : Nat) (l : List Rt) (w : World) (hz : Rz w p l) (hn : l.length ≤ 8192) :
    Calls Tryd.prog 38 #[.slice p l.length c] w fun e w' => e = .returned (.bool (!decide (l.map Rt.id).Nodup)) ∧ Below w.heap.size w w' := by
  have HZ := hid hz
  obtain ⟨n, hnl⟩ : ∃ n, l.length = n := ⟨_, rfl⟩
  obtain ⟨B, hB⟩ : ∃ B, decide (l.map Rt.id).Nodup = B := ⟨_, rfl⟩
  have HBB := hid hB
  rw [hnl] at hn ⊢
  rw [hB]
  have HNL := hid hnl
  have HYES := hid (show (∀ a b (ha : a < l.length) (hb : b < l.length), b < a → a < n → l[a].id ≠ l[b].id) → B = true from fun hh => by
    rw [← hB]
    refine decide_eq_true ?_
    rw [List.Nodup, List.pairwise_map, List.pairwise_iff_getElem]
    intro i j hi hj hij e
    exact hh j i hj hi hij (by omega) e.symm)
  have HNO := hid (show ∀ a b (ha : a < l.length) (hb : b < l.length), b < a → l[a].id = l[b].id → B = false from fun a b ha hb hab e => by
    rw [← hB]
    refine decide_eq_false (fun hd => ?_)
    rw [List.Nodup, List.pairwise_map, List.pairwise_iff_getElem] at hd
    exact hd b a hb ha hab e.symm)
  clear hz hnl hB HBB
  go_enter Tryd.func38, Tryd.ntmps38
  go_upto_region 2 with fail
  go_loopw [3] (fun iv wr => ∃ (i : Nat), iv = .int .i64 i ∧ i ≤ n ∧ Hid (∀ a b (ha : a < l.length) (hb : b < l.length), b < a → a < i → l[a].id ≠ l[b].id) ∧ Hid (Below w.heap.size w wr)) (fun iv _ => n - (intOf iv).toNat)
  case atStart => exact ⟨0, rfl, by omega, hid (fun a b _ _ _ h => absurd h (by omega)), hid (Below.refl _ _)⟩
  case round =>
    obtain ⟨i, rfl, i2, HS, HB⟩ := hrel
    obtain ⟨wo, hwo⟩ : ∃ x, x = wr := ⟨_, rfl⟩
    subst hwo
    by_cases hi : i < n
    · have ii : (i : Int) < (n : Int) := by omega
      have ii0 : (0 : Int) ≤ (i : Int) := by omega
      have wi : IntKind.i64.wrap ((i : Int) + 1) = ((i + 1 : Nat) : Int) := by rw [IntKind.wrap_i64]; omega
      have hil : i < l.length := by rw [HNL.out]; exact hi
      obtain ⟨g, rfl⟩ := rz_id HZ.out hil
      have HI := hid (fun (U : World) (hU : Below w.heap.size w U) => show U.cell? ⟨g, i * 7, none⟩ = some (.int .u64 l[i].id) from by
        obtain ⟨g', e, _, a0, _⟩ := (HZ.out.on hU) i hil
        injection e with e; injection e with e; subst e
        exact a0)
      have HI0 := hid hi
      go_upto_region 5 with fail
      go_loopw [4] (fun jv wr => ∃ (j : Nat), jv = .int .i64 j ∧ j ≤ i ∧ Hid (∀ b (hb : b < l.length), b < j → l[i].id ≠ l[b].id) ∧ Hid (Below w.heap.size w wr)) (fun jv _ => i - (intOf jv).toNat)
      case atStart => exact ⟨0, rfl, by omega, hid (fun b _ h => absurd h (by omega)), HB⟩
      case round =>
        clear HB
        obtain ⟨j, rfl, j2, HT, HB⟩ := hrel
        by_cases hj : j < i
        · have jj : (j : Int) < (i : Int) := by omega
          have jj0 : (0 : Int) ≤ (j : Int) := by omega
          have jn : (j : Int) < (n : Int) := by omega
          have wj : IntKind.i64.wrap ((j : Int) + 1) = ((j + 1 : Nat) : Int) := by rw [IntKind.wrap_i64]; omega
          have hjl : j < l.length := by rw [HNL.out]; omega
          have ci := HI.out wr HB.out
          have cj : wr.cell? ⟨g, j * 7, none⟩ = some (.int .u64 l[j].id) := by
            obtain ⟨g', e, _, a0, _⟩ := (HZ.out.on HB.out) j hjl
            injection e with e; injection e with e; subst e
            exact a0
          by_cases c : l[i].id = l[j].id
          · have e := HNO.out i j hil hjl hj c
            subst e
            have ec : (l[i].id == l[j].id) = true := by simpa using c
            obtain ⟨x, hx⟩ : ∃ x, (l[i]'hil).id = x := ⟨_, rfl⟩
            obtain ⟨y, hy⟩ : ∃ x, (l[j]'hjl).id = x := ⟨_, rfl⟩
            rw [hx] at ci ec
            rw [hy] at cj ec
            clear c hx hy HT HI HS HYES HNO
            go_upto_region 7 with fail
            go_big_quiet (fail)
            go_wp2
            go_ret
            exact ⟨rfl, btr HB.out ⟨rfl, rfl, rfl, Nat.le_refl _, fun _ _ => rfl⟩⟩
          · have ec : (l[i].id == l[j].id) = false := by simpa using c
            have HT2 := hid (show ∀ b (hb : b < l.length), b < j + 1 → l[i].id ≠ l[b].id from fun b hb h => by
              by_cases e : b = j
              · subst e; exact c
              · exact HT.out b hb (by omega))
            obtain ⟨x, hx⟩ : ∃ x, (l[i]'hil).id = x := ⟨_, rfl⟩
            obtain ⟨y, hy⟩ : ∃ x, (l[j]'hjl).id = x := ⟨_, rfl⟩
            have HX := hid hx
            rw [hx] at ci ec HT2
            rw [hy] at cj ec
            have HJ := hid hj
            clear c hx hy HT
            go_upto_region 7 with fail
            go_big_quiet (fail)
            go_wp2
            go_roundw
            case rel => exact ⟨j + 1, by go_num, HJ.out, hid (by rw [HX.out]; exact HT2.out), hid (btr HB.out ⟨rfl, rfl, rfl, Nat.le_refl _, fun _ _ => rfl⟩)⟩
            case measure => have := HJ.out; first | (simp [intOf]; done) | (simp [intOf]; omega)
        · obtain rfl : j = i := by omega
          have jF : decide ((j : Int) < (j : Int)) = false := by simp
          have HS2 := hid (show ∀ a b (ha : a < l.length) (hb : b < l.length), b < a → a < j + 1 → l[a].id ≠ l[b].id from fun a b ha hb hab h => by
            by_cases e : a = j
            · subst e; exact HT.out b hb hab
            · exact HS.out a b ha hb hab (by omega))
          go_wp2
          go_roundw
          case rel => exact ⟨j + 1, by go_num, HI0.out, HS2, HB⟩
          case measure => have := HI0.out; first | (simp [intOf]; done) | (simp [intOf]; omega)
    · have ii : ¬ (i : Int) < (n : Int) := by omega
      have di : decide ((i : Int) < (n : Int)) = false := decide_eq_false ii
      have e : B = true := HYES.out (fun a b ha hb hab h => HS.out a b ha hb hab (by omega))
      subst e
      go_wp2
      go_ret
      exact ⟨rfl, HB.out⟩
end Go.Proofs.YtjpkodllemoniaaDoor.Sr
