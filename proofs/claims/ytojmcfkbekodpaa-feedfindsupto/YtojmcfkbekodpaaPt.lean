/-
  The messages of a command: its trades first, then levels; plain.
-/
import Derived.Test.YtojmcfkbekodpaaPs
import Derived.Test.YtojmcfkbekodpaaRl
namespace Go.Proofs.Ytojmcfkbekodpaa
open Go.RowKit Go.Deep Go.Shelf
set_option linter.unusedVariables false
set_option linter.unusedSimpArgs false
set_option maxHeartbeats 1000000
set_option maxRecDepth 100000
theorem chg_kd (s : Int) : ∀ (n : Nat) (a b : List Fd.Lv), a.length + b.length ≤ n → ∀ x ∈ Fd.chg s a b, x.kd = 1
  | n, [], [], h => by rw [Fd.chg_nn]; simp
  | 0, x :: a, b, h => by simp at h
  | 0, [], y :: b, h => by simp at h
  | n + 1, x :: a, [], h => by
    have ih := chg_kd s n a [] (by simp at h ⊢; omega)
    rw [Fd.chg_cn]
    intro z hz
    rcases List.mem_cons.1 hz with rfl | hz
    · rfl
    · exact ih z hz
  | n + 1, [], y :: b, h => by
    have ih := chg_kd s n [] b (by simp at h ⊢; omega)
    rw [Fd.chg_nc]
    intro z hz
    rcases List.mem_cons.1 hz with rfl | hz
    · rfl
    · exact ih z hz
  | n + 1, x :: a, y :: b, h => by
    have i1 := chg_kd s n a (y :: b) (by simp at h ⊢; omega)
    have i2 := chg_kd s n (x :: a) b (by simp at h ⊢; omega)
    have i3 := chg_kd s n a b (by simp at h ⊢; omega)
    rw [Fd.chg]
    intro z hz
    split at hz
    · rcases List.mem_cons.1 hz with rfl | hz
      · rfl
      · exact i1 z hz
    · split at hz
      · rcases List.mem_cons.1 hz with rfl | hz
        · rfl
        · exact i2 z hz
      · split at hz
        · exact i3 z hz
        · rcases List.mem_cons.1 hz with rfl | hz
          · rfl
          · exact i3 z hz
/-- what is told of a command. -/
def tdl (l1 l2 : List Fd.Lv) (b : Bs) (d : Nat) (E : List Fd.Ev) : List Fd.Dm := Fd.trd E ++ Fd.chg 1 l1 (bl b 1 d) ++ Fd.chg 2 l2 (bl b 2 d)
theorem trd_at {E : List Fd.Ev} {k : Nat} (hk : k < E.length) (h3 : E[k].kd = 3) : (Fd.trd E)[(Fd.trd (E.take k)).length]? = some (Fd.tr1 E[k]) := by
  have e : E = E.take k ++ E[k] :: E.drop (k + 1) := by
    rw [← List.drop_eq_getElem_cons hk, List.take_append_drop]
  have : Fd.trd E = Fd.trd (E.take k) ++ Fd.tr1 E[k] :: Fd.trd (E.drop (k + 1)) := by
    conv => lhs; rw [e]
    unfold Fd.trd
    rw [List.filter_append, List.map_append, List.filter_cons, if_pos (by simp [h3]), List.map_cons]
  rw [this, List.getElem?_append_right (Nat.le_refl _), Nat.sub_self]
  rfl
theorem tdl_trade {l1 l2 : List Fd.Lv} {b : Bs} {d : Nat} {E : List Fd.Ev} {k : Nat} (hk : k < E.length) (h3 : E[k].kd = 3) : ∃ h : (Fd.trd (E.take k)).length < (tdl l1 l2 b d E).length, (tdl l1 l2 b d E)[(Fd.trd (E.take k)).length] = Fd.tr1 E[k] := by
  have h := trd_at hk h3
  have hl : (Fd.trd (E.take k)).length < (Fd.trd E).length := (List.getElem?_eq_some_iff.1 h).1
  have h2 : (tdl l1 l2 b d E)[(Fd.trd (E.take k)).length]? = some (Fd.tr1 E[k]) := by
    unfold tdl
    rw [List.append_assoc, List.getElem?_append_left hl, h]
  exact List.getElem?_eq_some_iff.1 h2
theorem tdl_level {l1 l2 : List Fd.Lv} {b : Bs} {d : Nat} {E : List Fd.Ev} {k : Nat} (hk : k < (tdl l1 l2 b d E).length) (hn : (Fd.trd E).length ≤ k) : (tdl l1 l2 b d E)[k].kd = 1 := by
  have h : (tdl l1 l2 b d E)[k]? = some (tdl l1 l2 b d E)[k] := List.getElem?_eq_getElem hk
  obtain ⟨x, hx⟩ : ∃ x, (tdl l1 l2 b d E)[k] = x := ⟨_, rfl⟩
  rw [hx] at h ⊢
  unfold tdl at h
  rw [List.append_assoc, List.getElem?_append_right hn] at h
  have hm := List.mem_of_getElem? h
  rcases List.mem_append.1 hm with hm | hm
  · exact chg_kd 1 _ _ _ (Nat.le_refl _) x hm
  · exact chg_kd 2 _ _ _ (Nat.le_refl _) x hm
theorem trd_step {E : List Fd.Ev} {k : Nat} (hk : k < E.length) : (Fd.trd (E.take (k + 1))).length = (Fd.trd (E.take k)).length + if E[k].kd = 3 then 1 else 0 := by
  rw [Fd.trd_snoc E k hk, List.length_append]
  by_cases h : E[k].kd = 3
  · simp [h]
  · simp [h]
theorem nmb_at {s : Int} {l : List Fd.Dm} {i : Nat} (h : i < l.length) : (Fd.nmb s l)[i]'(by rw [Fd.nmb_len]; exact h) = { l[i] with sq := Fd.uw (s + i + 1) } := Fd.nmb_get s l i h
theorem tdl_len {l1 l2 : List Fd.Lv} {b : Bs} {d : Nat} {E : List Fd.Ev} (n1 : l1.length ≤ 64) (n2 : l2.length ≤ 64) (hd : d ≤ 64) : (tdl l1 l2 b d E).length ≤ E.length + 256 := by
  unfold tdl
  rw [List.length_append, List.length_append]
  have a := Fd.chg_len 1 l1 (bl b 1 d)
  have c := Fd.chg_len 2 l2 (bl b 2 d)
  have e : (Fd.trd E).length ≤ E.length := by
    unfold Fd.trd
    rw [List.length_map]
    exact List.length_filter_le _ _
  have f1 : (bl b 1 d).length ≤ d := by unfold bl; rw [lvs_len]; exact (dpl_len 1 d _).1
  have f2 : (bl b 2 d).length ≤ d := by unfold bl; rw [lvs_len]; exact (dpl_len 2 d _).1
  omega
end Go.Proofs.Ytojmcfkbekodpaa
namespace Go.Proofs.Ytojmcfkbekodpaa
open Go.RowKit Go.Deep Go.Shelf
set_option linter.unusedVariables false
set_option linter.unusedSimpArgs false
set_option maxHeartbeats 16000000
set_option maxRecDepth 100000
attribute [local go_sem ↓] Go.wp_at_zero Go.wp_at_succ
/-- commands in memory. -/
def Cmz (w : World) (q : Option Addr) (l : List Cm) : Prop := ∀ i (h : i < l.length), ∃ b off, q = some ⟨b, off, none⟩ ∧ b < w.heap.size ∧ ∀ j, j < 9 → w.cell? ⟨b, off + i * 9 + j, none⟩ = (cmr l[i])[j]?
theorem cmz_cells {W U : World} {q : Option Addr} {l : List Cm} (h : Cmz W q l) (hU : Below W.heap.size W U) {i : Nat} (hi : i < l.length) : ∃ b off, q = some ⟨b, off, none⟩ ∧ U.cell? ⟨b, off + i * 9, none⟩ = some (.int .i64 l[i].kd) ∧ U.cell? ⟨b, off + i * 9 + 1, none⟩ = some (.int .u64 l[i].id) ∧ U.cell? ⟨b, off + i * 9 + 2, none⟩ = some (.int .u64 l[i].tg) ∧ U.cell? ⟨b, off + i * 9 + 3, none⟩ = some (.int .u32 l[i].mb) ∧ U.cell? ⟨b, off + i * 9 + 4, none⟩ = some (.int .i64 l[i].sd) ∧ U.cell? ⟨b, off + i * 9 + 5, none⟩ = some (.int .i64 l[i].ty) ∧ U.cell? ⟨b, off + i * 9 + 6, none⟩ = some (.int .i64 l[i].pr) ∧ U.cell? ⟨b, off + i * 9 + 7, none⟩ = some (.int .u64 l[i].qt) ∧ U.cell? ⟨b, off + i * 9 + 8, none⟩ = some (.int .u64 l[i].pk) := by
  obtain ⟨b, off, hq, hb, hc⟩ := h i hi
  have go : ∀ j, j < 9 → U.cell? ⟨b, off + i * 9 + j, none⟩ = (cmr l[i])[j]? := fun j hj => (hU.cell (p := ⟨b, off + i * 9 + j, none⟩) hb).trans (hc j hj)
  exact ⟨b, off, hq, go 0 (by omega), go 1 (by omega), go 2 (by omega), go 3 (by omega), go 4 (by omega), go 5 (by omega), go 6 (by omega), go 7 (by omega), go 8 (by omega)⟩
theorem books_no (d cap meet : Int) (q : Option Addr) (n c0 : Nat) (W : World) (h : ¬ (1 ≤ d ∧ d ≤ 64) ∨ cfg cap meet = false) :
    Calls Try.prog 3 #[.int .i64 d, .agg #[.int .i64 cap, .int .i64 meet], .slice q n c0] W fun e w' => e = .returned (.bool true) ∧ Below W.heap.size W w' := by
  have HW := hid (World.alloc_heap_new W (.cells #[.int .i64 cap, .int .i64 meet] 23))
  have HB0 := hid (ball W (.cells #[.int .i64 cap, .int .i64 meet] 23))
  obtain ⟨W1, hW⟩ : ∃ W1, W.alloc (.cells #[.int .i64 cap, .int .i64 meet] 23) = W1 := ⟨_, rfl⟩
  rw [hW] at HW HB0
  have CL := hid (Fd.lives_ok W1)
  have CP := hid (show ∀ U, Calls Try.prog 8 #[.int .i64 d] U fun e w' => ∃ p k, e = .returned (.tuple #[.pointer p, .int .i64 k]) ∧ (k = 1 ∨ (k = 0 ∧ ¬ p = none ∧ (1 ≤ d ∧ d ≤ 64))) ∧ Below U.heap.size U w' from fun U => by
    by_cases hd : 1 ≤ d ∧ d ≤ 64
    · obtain ⟨k, rfl⟩ : ∃ k : Nat, d = (k : Int) := ⟨d.toNat, by omega⟩
      refine (Fd.newP_ok k (by omega) (by omega) U).mono ?_
      rintro e w' ⟨B, rfl, _, _, h4⟩
      exact ⟨_, _, rfl, .inr ⟨rfl, by simp, hd⟩, h4⟩
    · refine (Fd.newP_no d hd U).mono ?_
      rintro e w' ⟨rfl, h4⟩
      exact ⟨_, _, rfl, .inl rfl, h4⟩)
  have CN := hid (show ∀ U, Calls Try.prog 9 #[.agg #[.int .i64 cap, .int .i64 meet]] U fun e w' => ∃ p k, e = .returned (.tuple #[.pointer p, .int .i64 k]) ∧ (k = 1 ∨ (k = 0 ∧ cfg cap meet = true)) ∧ Below U.heap.size U w' from fun U => by
    refine (pl_new cap meet U).mono ?_
    rintro e w' (⟨h1, rfl, h3⟩ | ⟨h1, B, b, rfl, h2, _⟩)
    · exact ⟨_, _, rfl, .inl rfl, h3⟩
    · exact ⟨_, _, rfl, .inr ⟨rfl, h1⟩, h2.be⟩)
  have HH := hid h
  have HE := hid hW
  clear h hW
  go_enter Try.func3, Try.ntmps3
  go_upto_region 1 with fail
  rw [HE.out]
  go_upto_region 4 with (first | (go_at_call 7; with_reducible refine (CL.out).mono ?_; rintro e w1 ⟨rfl, hb⟩; have HB1 := hid hb; clear hb) | (go_at_call 8; with_reducible refine (CP.out _).mono ?_; rintro e w2 ⟨p, k, rfl, hk, hb⟩; have HK := hid hk; have HB2 := hid hb; clear hb hk))
  have c0 := row_cell (row_on HW.out (btr HB1.out HB2.out)) 0
  have c1 := row_cell (row_on HW.out (btr HB1.out HB2.out)) 1
  simp only [List.getElem?_toArray, List.getElem?_cons_succ, List.getElem?_cons_zero] at c0 c1
  go_upto_region 5 with (go_at_call 9; with_reducible refine (CN.out _).mono ?_; rintro e w3 ⟨p', k', rfl, hk, hb⟩; have HK' := hid hk; have HB3 := hid hb; clear hk hb)
  clear c0 c1
  rcases HK.out with rfl | ⟨rfl, hp, hd⟩
  · go_wp2
    go_ret
    exact ⟨rfl, btr (btr (btr HB0.out HB1.out) HB2.out) HB3.out⟩
  · have hk' : k' = 1 := by
      rcases HK'.out with h | ⟨_, h⟩
      · exact h
      · rcases HH.out with h' | h'
        · exact absurd hd h'
        · rw [h] at h'; cases h'
    subst hk'
    go_wp2
    go_ret
    exact ⟨rfl, btr (btr (btr HB0.out HB1.out) HB2.out) HB3.out⟩
end Go.Proofs.Ytojmcfkbekodpaa
