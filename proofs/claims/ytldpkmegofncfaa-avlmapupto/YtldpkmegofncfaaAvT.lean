/-
  AvlMap's walk.
-/
import Derived.Test.YtldpkmegofncfaaAvS
namespace Go.Proofs.Ytldpkmegofncfaa
open Go.RowKit Go.Maps Go.Deep
set_option linter.unusedVariables false
set_option linter.unusedSimpArgs false
/-- two trees and a map. -/
structure Mz (w : World) (A B M n : Nat) (L b : T) (wr : World) : Prop where
  a : Av wr A L
  b : Av wr B b
  m : Mq wr M n L
  bel : Below w.heap.size w wr
theorem Mz.step {w : World} {A B M n : Nat} {L b : T} {wr w' : World} (h : Mz w A B M n L b wr) (hb : Below wr.heap.size wr w') : Mz w A B M n L b w' := ⟨h.a.on hb, h.b.on hb, h.m.on hb, btr h.bel hb⟩
theorem Mz.drew {w : World} {A B M n : Nat} {L b : T} {wr : World} (h : Mz w A B M n L b wr) : Mz w A B M n L b wr.drew := h.step (below_drews rfl rfl rfl rfl)
theorem Mz.turn {w : World} {A B M n : Nat} {L b b' : T} {wr w' : World} (h : Mz w A B M n L b wr) (hne : A ≠ B) (hB : w.heap.size ≤ B) (h1 : Av w' B b') (h2 : Ko B wr w') : Mz w A B M n L b' w' := ⟨h.a.ko h.b h2 hne, h1, h.m.ko h.b h2, Ko.below h.bel h2 hB h.bel.size⟩
/-- a tree stays when a block that is none of its own changes. -/
theorem Av.koO {w w' : World} {A r : Nat} {t : T} {o : Obj} (h : Av w A t) (hr : w.heap[r]? = some o) (ho : ∀ c ty, o ≠ .cells c ty (0, 0)) (hk : Ko r w w') : Av w' A t := by
  obtain ⟨p, h1, h2⟩ := h
  refine ⟨p, hk.row h1 ?_, h2.same (fun b c hc => hk.row hc ?_)⟩
  · rintro rfl; rw [hr] at h1; exact ho _ _ (Option.some.inj h1)
  · rintro rfl; rw [hr] at hc; exact ho _ _ (Option.some.inj hc)
theorem Av.koM {w w' : World} {A M n : Nat} {t u : T} (h : Av w A t) (hm : Mq w M n u) (hk : Ko M w w') : Av w' A t := by
  obtain ⟨es, cl, he⟩ := hm.obj
  exact h.koO he (fun c ty e => by cases e) hk
theorem Av.koR {w w' : World} {A M r n cnt : Nat} {t u : T} (h : Av w A t) (hm : Mr w M r n u cnt) (hk : Ko r w w') : Av w' A t := by
  obtain ⟨D, left, ⟨es, clock, since, seen, c0, _, _, _, _, hr, _⟩, _⟩ := hm
  exact h.koO hr (fun c ty e => by cases e) hk
structure M1 (w : World) (A B : Nat) (t : T) (wr : World) : Prop where
  a : Av wr A t
  b : Av wr B .nil
  bel : Below w.heap.size w wr
theorem M1.step {w : World} {A B : Nat} {t : T} {wr w' : World} (h : M1 w A B t wr) (hb : Below wr.heap.size wr w') : M1 w A B t w' := ⟨h.a.on hb, h.b.on hb, btr h.bel hb⟩
theorem M1.drew {w : World} {A B : Nat} {t : T} {wr : World} (h : M1 w A B t wr) : M1 w A B t wr.drew := h.step (below_drews rfl rfl rfl rfl)
/-- every key of b is one of these. -/
def Ins (b : T) (p : Int → Prop) : Prop := ∀ k, (b.get k).isSome = true → p k
theorem Ins.put {b : T} {p : Int → Prop} (h : Ins b p) (hk : T.ok b) (k v : Int) (hp : p k) : Ins (b.put k v) p := by
  intro j hj
  rw [T.get_put hk] at hj
  by_cases e : j = k
  · rw [e]; exact hp
  · rw [if_neg e] at hj; exact h j hj
theorem Ins.drop {b : T} {p q : Int → Prop} (h : Ins b p) (hk : T.ok b) (k : Int) (hpq : ∀ j, j ≠ k → p j → q j) : Ins (b.drop k) q := by
  intro j hj
  rw [T.get_drop hk] at hj
  by_cases e : j = k
  · rw [if_pos e] at hj; simp at hj
  · rw [if_neg e] at hj; exact hpq j e (h j hj)
theorem Ins.mono {b : T} {p q : Int → Prop} (h : Ins b p) (hpq : ∀ j, p j → q j) : Ins b q := fun k hk => hpq k (h k hk)
theorem getD_mem {l : List Int} {i : Nat} (h : i < l.length) : l.getD i 0 ∈ l := by
  simp only [List.getD, List.getElem?_eq_getElem h, Option.getD_some]; exact List.getElem_mem h
theorem mem_getD {l : List Int} {x : Int} (h : x ∈ l) : ∃ i, i < l.length ∧ l.getD i 0 = x := by
  obtain ⟨i, hi, e⟩ := List.getElem_of_mem h
  exact ⟨i, hi, by simp [List.getD, hi, e]⟩
set_option maxHeartbeats 16000000 in
set_option maxRecDepth 100000 in
theorem map_walkL (q0 : Option Addr) (cap0 : Nat) (keys : List Int) (q1 : Option Addr) (cap1 : Nat) (values : List Int) (q2 : Option Addr) (cap2 : Nat) (order : List Int) (w : World) (hv0 : Vs w q0 keys) (hv1 : Vs w q1 values) (hv2 : Vs w q2 order) (hl : keys.length + values.length + order.length ≤ 1048576)
    (r0 : ∀ x ∈ keys, Wi x) (r1 : ∀ x ∈ values, Wi x) (r2 : ∀ x ∈ order, Wi x) (hc : keys.length ≤ values.length) :
    Calls Try.prog 4 #[.slice q0 keys.length cap0, .slice q1 values.length cap1, .slice q2 order.length cap2] w fun e w' => e = .returned (.bool true) ∧ Below w.heap.size w w' := by
  have HL := hid hl
  have HV0 := hid hv0
  have HV1 := hid hv1
  have HV2 := hid hv2
  have HR0 := hid r0
  have HR1 := hid r1
  have HR2 := hid r2
  obtain ⟨n0, hn0⟩ : ∃ n, keys.length = n := ⟨_, rfl⟩
  obtain ⟨n1, hn1⟩ : ∃ n, values.length = n := ⟨_, rfl⟩
  obtain ⟨n2, hn2⟩ : ∃ n, order.length = n := ⟨_, rfl⟩
  rw [hn0, hn1, hn2] at HL hl ⊢
  have HN0 := hid hn0
  have HN1 := hid hn1
  have HN2 := hid hn2
  have hc' : n0 ≤ n1 := by omega
  have b0 : (n0 : Int) ≤ 1048576 := by omega
  have b1 : (n1 : Int) ≤ 1048576 := by omega
  have b2 : (n2 : Int) ≤ 1048576 := by omega
  have NEW := hid (show M1 w w.heap.size (w.heap.size + 1) .nil ((w.alloc (.cells #[.pointer none] 32)).alloc (.cells #[.pointer none] 32)) from
    ⟨(av_new w).on (ball _ _), by have := av_new (w.alloc (.cells #[.pointer none] 32)); simpa using this, btr (ball _ _) (ball _ _)⟩)
  have HNE := hid (show w.heap.size ≠ w.heap.size + 1 by omega)
  obtain ⟨A, hA⟩ : ∃ A, w.heap.size = A := ⟨_, rfl⟩
  obtain ⟨B, hB⟩ : ∃ B, A + 1 = B := ⟨_, rfl⟩
  have HLA := hid (show w.heap.size ≤ A by omega)
  have HLB := hid (show w.heap.size ≤ B by omega)
  have HAE := hid hA
  have HBE := hid hB
  have HCC := hid hc'
  clear hc hc' hl hv0 hv1 hv2 hn0 hn1 hn2 r0 r1 r2 hA hB
  go_enter Try.func4, Try.ntmps4
  go_wp2_with fail
  rw [HAE.out, HBE.out] at NEW HNE
  rw [HAE.out, HBE.out]
  go_loopw [9] (fun iv wr => ∃ i : Nat, i ≤ n0 ∧ iv = .int .i64 i ∧ Hid (M1 w A B (pt keys values i) wr)) (fun iv _ => n0 - (intOf iv).toNat)
  case atStart => exact ⟨0, Nat.zero_le _, rfl, NEW⟩
  case round =>
    obtain ⟨i, hi, rfl, HF⟩ := hrel
    clear NEW
    have HB := hid HF.out.bel
    have hcc := HCC.out
    by_cases him : i = n0
    · have him' := him.symm
      subst him'
      clear him
      have d1 : decide ((n0 : Int) < (n0 : Int)) = false := by simp
      have MD := hid (Mq.made wr)
      have HBM := hid (ball wr (.map #[] 0))
      have HM0 := hid (HF.out.step (ball wr (.map #[] 0)))
      have hmm := @run_makeMap Try.prog
      clear hi
      go_wp2_with fail
      obtain ⟨M, hM⟩ : ∃ M, wr.heap.size = M := ⟨_, rfl⟩
      rw [hM] at MD
      rw [hM]
      have HLM := hid (show w.heap.size ≤ M by rw [← hM]; exact HB.out.size)
      have hLok := pt_ok keys values n0
      have hLn := pt_n keys values n0
      have HLG := hid (show ∀ k, k < n0 → ∃ v, (pt keys values n0).get (keys.getD k 0) = some v from pt_get keys values n0)
      have HLF := hid (show ∀ k v, (pt keys values n0).get k = some v → ∃ j, j < n0 ∧ keys.getD j 0 = k from pt_from keys values n0)
      obtain ⟨L, hL⟩ : ∃ L, pt keys values n0 = L := ⟨_, rfl⟩
      rw [hL] at HM0 hLok hLn HLG HLF
      have HLOK := hid hLok
      have HLN := hid hLn
      have HPT := hid hL
      clear hM HF HB HBM hLok hLn hL hmm
      go_loopw [11] (fun iv wr => ∃ j : Nat, j ≤ n0 ∧ iv = .int .i64 j ∧ Hid (M1 w A B L wr) ∧ Hid (Mq wr M j (pt keys values j))) (fun iv _ => n0 - (intOf iv).toNat)
      case atStart => exact ⟨0, Nat.zero_le _, rfl, HM0, MD⟩
      case round =>
        obtain ⟨j, hj, rfl, HF, HQ⟩ := hrel
        clear HM0 MD
        have HB := hid HF.out.bel
        by_cases hji : j = n0
        · have hji' := hji.symm
          subst hji'
          clear hji
          have HZ := hid (show Mz w A B M n0 L .nil wr from ⟨HF.out.a, HF.out.b, by have := HQ.out; rw [HPT.out] at this; exact this, HF.out.bel⟩)
          clear HF HQ HB hj
          go_wp2_with fail
          go_loopw [12, 13] (fun iv _ wr => ∃ (j : Nat) (b : T), j ≤ n2 ∧ iv = .int .i64 j ∧ Hid (Mz w A B M n0 L b wr) ∧ Hid (T.ok b ∧ b.n ≤ 2 * j ∧ Ins b (fun k => k ∈ order ∨ k ∈ keys))) (fun iv _ _ => n2 - (intOf iv).toNat)
          case atStart => exact ⟨0, .nil, Nat.zero_le _, rfl, HZ, hid ⟨T.ok_nil, by simp [T.n], fun k hk => by simp [T.get, T.find, T.val] at hk⟩⟩
          case round =>
            obtain ⟨j, b, hj, rfl, HY, HP⟩ := hrel
            clear HZ
            have HB := hid HY.out.bel
            by_cases hjn : j = n2
            · have hjn' := hjn.symm
              subst hjn'
              have d2 : decide ((n2 : Int) < (n2 : Int)) = false := by simp
              have w1 : IntKind.i64.wrap ((n0 : Int) - 1) = (n0 : Int) - 1 := by simp [IntKind.wrap, IntKind.bits, IntKind.signed]; omega
              clear hj hjn HB
              go_wp2_with fail
              go_loopw [14] (fun iv wr => ∃ (m : Nat) (b : T), m ≤ n0 ∧ iv = .int .i64 ((m : Int) - 1) ∧ Hid (Mz w A B M n0 L b wr) ∧ Hid (T.ok b ∧ b.n ≤ 2 * n2 + (n0 - m) ∧ Ins b (fun k => k ∈ order ∨ k ∈ keys) ∧ ∀ i', m ≤ i' → i' < n0 → b.get (keys.getD i' 0) = L.get (keys.getD i' 0))) (fun iv _ => ((intOf iv) + 1).toNat)
              case atStart => exact ⟨n0, b, Nat.le_refl _, rfl, HY, hid ⟨HP.out.1, by have := HP.out.2.1; omega, HP.out.2.2, fun i' h1 h2 => absurd h2 (by have := HCC.out; omega)⟩⟩
              case round =>
                obtain ⟨m, b4, hm, rfl, HW, HP4⟩ := hrel
                clear HY HP w1
                have HB := hid HW.out.bel
                cases m with
                | zero =>
                  have HX5 := hid (show T.ok b4 ∧ b4.n ≤ 2 * n2 + n0 ∧ (∀ k v, L.get k = some v → b4.get k = some v) ∧ Ins b4 (fun k => (L.get k).isSome = true ∨ k ∈ order.drop 0 ∨ k ∈ keys) from by
                    obtain ⟨h1, h2, h3, h4⟩ := HP4.out
                    refine ⟨h1, by omega, ?_, ?_⟩
                    · intro k v hk
                      obtain ⟨i', hi', rfl⟩ := HLF.out k v hk
                      rw [h4 i' (by omega) hi', hk]
                    · intro k hk
                      rcases h3 k hk with h | h
                      · exact Or.inr (Or.inl (by simpa using h))
                      · exact Or.inr (Or.inr h))
                  simp only [Int.natCast_zero, Int.zero_sub]
                  clear HP4 hm HB
                  go_wp2_with fail
                  go_loopw [15, 16, 17] (fun iv _ _ wr => ∃ (j : Nat) (b : T), j ≤ n2 ∧ iv = .int .i64 j ∧ Hid (Mz w A B M n0 L b wr) ∧ Hid (T.ok b ∧ b.n ≤ 2 * n2 + n0 ∧ (∀ k v, L.get k = some v → b.get k = some v) ∧ Ins b (fun k => (L.get k).isSome = true ∨ k ∈ order.drop j ∨ k ∈ keys))) (fun iv _ _ _ => n2 - (intOf iv).toNat)
                  case atStart => exact ⟨0, b4, Nat.zero_le _, rfl, HW, HX5⟩
                  case round =>
                    obtain ⟨j, b5, hj, rfl, HV, HP5⟩ := hrel
                    clear HW HX5
                    have HB := hid HV.out.bel
                    by_cases hjn : j = n2
                    · have hjn' := hjn.symm
                      subst hjn'
                      have d6 : decide ((n2 : Int) < (n2 : Int)) = false := by simp
                      have HX6 := hid (show T.ok b5 ∧ b5.n ≤ 2 * n2 + n0 ∧ (∀ k v, L.get k = some v → b5.get k = some v) ∧ Ins b5 (fun k => (L.get k).isSome = true ∨ k ∈ keys.drop n1) from by
                        obtain ⟨h1, h2, h3, h4⟩ := HP5.out
                        refine ⟨h1, h2, h3, ?_⟩
                        intro k hk
                        rcases h4 k hk with h | h | h
                        · exact Or.inl h
                        · rw [List.drop_eq_nil_of_le (by rw [HN2.out]; omega)] at h; simp at h
                        · obtain ⟨i', hi', rfl⟩ := mem_getD h
                          rw [HN0.out] at hi'
                          have hcc3 := HCC.out
                          by_cases hK : i' < n0
                          · obtain ⟨v, hv⟩ := HLG.out i' hK
                            exact Or.inl (by rw [hv]; rfl)
                          · refine Or.inr ?_
                            have h5 : n1 ≤ i' := by omega
                            rw [List.mem_iff_getElem]
                            have h6 : i' < keys.length := by rw [HN0.out]; exact hi'
                            exact ⟨i' - n1, by simp; omega, by simp [List.getD, h6, show n1 + (i' - n1) = i' by omega]⟩)
                      clear hj hjn HB HP5
                      go_wp2_with fail
                      go_loopw [18, 19, 20] (fun iv _ _ wr => ∃ (i : Nat) (b : T), n1 ≤ i ∧ i ≤ n0 + n1 ∧ iv = .int .i64 i ∧ Hid (Mz w A B M n0 L b wr) ∧ Hid (T.ok b ∧ b.n ≤ 2 * n2 + n0 ∧ (∀ k v, L.get k = some v → b.get k = some v) ∧ Ins b (fun k => (L.get k).isSome = true ∨ k ∈ keys.drop i))) (fun iv _ _ _ => n0 - (intOf iv).toNat)
                      case atStart => exact ⟨n1, b5, Nat.le_refl _, by omega, rfl, HV, HX6⟩
                      case round =>
                        obtain ⟨i, b6, hi1, hi2, rfl, HU, HP6⟩ := hrel
                        clear HV HX6
                        have HB := hid HU.out.bel
                        by_cases hjn : i < n0
                        · have hjl : i < keys.length := by rw [HN0.out]; omega
                          obtain ⟨x, hx⟩ : ∃ x, keys.getD i 0 = x := ⟨_, rfl⟩
                          obtain ⟨g2, o2, rfl, hc2⟩ := HV0.out.at HB.out hjl
                          rw [hx] at hc2
                          have hsp : keys.drop i = x :: keys.drop (i + 1) := by
                            rw [List.drop_eq_getElem_cons hjl]
                            congr 1
                            rw [← hx]; simp [List.getD, hjl]
                          obtain ⟨u, hrun⟩ := HU.out.m.look2 x (by rw [← hx]; exact HR0.out _ (getD_mem hjl))
                          obtain ⟨h1, h2, h3, h4⟩ := HP6.out
                          have gb : Gd b6 := ⟨h1, by have := HL.out; omega⟩
                          have f1 : (i : Int) < (n0 : Int) := by omega
                          have f2 : (0 : Int) ≤ (i : Int) := by omega
                          have ct1 : ((i : Int)).toNat = i := by omega
                          have wj : IntKind.i64.wrap ((i : Int) + 1) = ((i + 1 : Nat) : Int) := by simp [IntKind.wrap, IntKind.bits, IntKind.signed]; omega
                          have HJM := hid (show n1 ≤ i + 1 ∧ i + 1 ≤ n0 + n1 ∧ n0 - (i + 1) < n0 - i by omega)
                          cases hs : (L.get x).isSome with
                          | true =>
                            rw [hs] at hrun
                            have HP7 := hid (show T.ok b6 ∧ b6.n ≤ 2 * n2 + n0 ∧ (∀ k v, L.get k = some v → b6.get k = some v) ∧ Ins b6 (fun k => (L.get k).isSome = true ∨ k ∈ keys.drop (i + 1)) from by
                              refine ⟨h1, h2, h3, h4.mono ?_⟩
                              intro k hk
                              rcases hk with h | h
                              · exact Or.inl h
                              · rw [hsp] at h
                                rcases List.mem_cons.1 h with e | h
                                · exact Or.inl (by rw [e]; exact hs)
                                · exact Or.inr h)
                            obtain ⟨j1, hj1⟩ : ∃ j1, i + 1 = j1 := ⟨_, rfl⟩
                            rw [hj1] at wj HJM HP7
                            clear hi1 hi2 hjn hjl hx hsp h1 h2 h3 h4 gb hs hj1 HP6
                            go_wp2_with fail
                            go_roundw
                            case rel => exact ⟨j1, b6, HJM.out.1, HJM.out.2.1, rfl, HU, HP7⟩
                            case measure => simpa [intOf] using HJM.out.2.2
                          | false =>
                            rw [hs] at hrun
                            have PT := hid (drop_w (w0 := w) HU.out.b gb x)
                            have HP7 := hid (show T.ok (b6.drop x) ∧ (b6.drop x).n ≤ 2 * n2 + n0 ∧ (∀ k v, L.get k = some v → (b6.drop x).get k = some v) ∧ Ins (b6.drop x) (fun k => (L.get k).isSome = true ∨ k ∈ keys.drop (i + 1)) from by
                              refine ⟨h1.drop x, Nat.le_trans (T.n_drop_le h1 x) h2, ?_, h4.drop h1 x ?_⟩
                              · intro k v hk
                                rw [T.get_drop h1, if_neg (fun e => by rw [e] at hk; rw [hk] at hs; simp at hs)]
                                exact h3 k v hk
                              · intro k hne hk
                                rcases hk with h | h
                                · exact Or.inl h
                                · rw [hsp] at h
                                  rcases List.mem_cons.1 h with e | h
                                  · exact absurd e hne
                                  · exact Or.inr h)
                            obtain ⟨j1, hj1⟩ : ∃ j1, i + 1 = j1 := ⟨_, rfl⟩
                            rw [hj1] at wj HJM HP7
                            clear hi1 hi2 hjn hjl hx hsp h1 h2 h3 h4 gb hs hj1 HP6
                            go_wp2_with (first | (go_at_call 12; with_reducible refine (PT.out).mono ?_; rintro e w5 ⟨a5, b5', rfl, hav5, hko5⟩; clear PT; have HU5 := hid (HU.out.turn HNE.out HLB.out hav5 hko5); clear hav5 hko5))
                            go_roundw
                            case rel => exact ⟨j1, b6.drop x, HJM.out.1, HJM.out.2.1, rfl, HU5, HP7⟩
                            case measure => simpa [intOf] using HJM.out.2.2
                        · have d7 : decide ((i : Int) < (n0 : Int)) = false := by simp; omega
                          have d7' : decide (i < n0) = false := by simp; omega
                          obtain ⟨h1, h2, h3, h4⟩ := HP6.out
                          have hget : ∀ k, L.get k = b6.get k := by
                            intro k
                            cases hk : L.get k with
                            | some v => rw [h3 k v hk]
                            | none =>
                              cases hb : b6.get k with
                              | none => rfl
                              | some u =>
                                rcases h4 k (by rw [hb]; rfl) with h | h
                                · rw [hk] at h; simp at h
                                · rw [List.drop_eq_nil_of_le (by rw [HN0.out]; omega)] at h; simp at h
                          have hto := toL_ext HLOK.out h1 hget
                          have HGE := hid hget
                          have HRK := hid (show ∀ k, b6.rk k = L.rk k from fun k => (rk_ext HLOK.out h1 hto k).symm)
                          have hbn : b6.n = L.n := (n_ext hto).symm
                          have gl : Gd L := ⟨HLOK.out, by have := HLN.out; have := HL.out; omega⟩
                          have gb : Gd b6 := ⟨h1, by have := HL.out; omega⟩
                          have HGL := hid gl
                          have HGB := hid gb
                          have LA := hid (len_any HU.out.a)
                          have LB := hid (len_any HU.out.b)
                          rw [hbn] at LB
                          have hlen := fun ty => HU.out.m.len ty
                          obtain ⟨ln, hln⟩ : ∃ n, L.n = n := ⟨_, rfl⟩
                          rw [hln] at LA LB hlen
                          have lne : ((ln : Int) != (ln : Int)) = false := by simp
                          obtain ⟨wq, cnt, hrange, hmr, hbq⟩ := HU.out.m.range
                          obtain ⟨r, hr⟩ : ∃ r, wr.heap.size = r := ⟨_, rfl⟩
                          rw [hr] at hrange hmr
                          have HMR := hid hmr
                          have HUQ := hid (show Av wq A L ∧ Av wq B b6 ∧ Below w.heap.size w wq from ⟨HU.out.a.on hbq, HU.out.b.on hbq, btr HB.out hbq⟩)
                          have HRL := hid (show w.heap.size ≤ r by rw [← hr]; exact HB.out.size)
                          clear hi1 hi2 hjn h1 h2 h3 h4 hget hto hbn gl gb hln hmr hbq hr HP6
                          go_wp2_with (first | (go_at_call 13; with_reducible refine (LA.out).mono ?_; rintro e w5 ⟨rfl, rfl⟩) | (go_at_call 13; with_reducible refine (LB.out).mono ?_; rintro e w5 ⟨rfl, rfl⟩))
                          go_loopw [21, 22, 23, 24, 25, 26] (fun _ _ _ _ _ _ wr => ∃ cnt, Hid (Mr wr M r n0 L cnt) ∧ Hid (Av wr A L ∧ Av wr B b6 ∧ Below w.heap.size w wr)) (fun _ _ _ _ _ _ wr => wr.rangeLeft M r)
                          case atStart => exact ⟨cnt, HMR, HUQ⟩
                          case round =>
                            obtain ⟨cnt', HMR', HUQ'⟩ := hrel
                            clear HMR HUQ HU LA LB hlen hrange
                            have HLE := hid HMR'.out.left
                            rcases HMR'.out.next with hdone | ⟨k, v, wn, cn, hkv, hnext, hentry, hmr, hlt, hko⟩
                            · go_wp2_with fail
                              go_ret
                              exact ⟨rfl, HUQ'.out.2.2⟩
                            · have HN := hid (show Av wn A L ∧ Av wn B b6 ∧ Below w.heap.size w wn from ⟨HUQ'.out.1.koR HMR'.out hko, HUQ'.out.2.1.koR HMR'.out hko, Ko.below HUQ'.out.2.2 hko HRL.out HUQ'.out.2.2.size⟩)
                              have HMN := hid hmr
                              have HLT := hid hlt
                              have GA := hid (show ∀ w', Av w' A L → Calls Try.prog 14 #[.pointer (some ⟨A, 0, none⟩), .int .i64 k] w' fun e w2 => e = .returned (.tuple #[.int .i64 v, .bool true]) ∧ Below w'.heap.size w' w2 from fun w' ha => by have := get_any ha k; rw [hkv] at this; exact this)
                              have GB := hid (show ∀ w', Av w' B b6 → Calls Try.prog 14 #[.pointer (some ⟨B, 0, none⟩), .int .i64 k] w' fun e w2 => e = .returned (.tuple #[.int .i64 v, .bool true]) ∧ Below w'.heap.size w' w2 from fun w' ha => by have := get_any ha k; rw [← HGE.out k, hkv] at this; exact this)
                              have RA := hid (show ∀ w', Av w' A L → Calls Try.prog 15 #[.pointer (some ⟨A, 0, none⟩), .int .i64 k] w' fun e w2 => e = .returned (.int .i64 (L.rk k)) ∧ w2 = w' from fun w' ha => rank_any ha HGL.out.lim k)
                              have RB := hid (show ∀ w', Av w' B b6 → Calls Try.prog 15 #[.pointer (some ⟨B, 0, none⟩), .int .i64 k] w' fun e w2 => e = .returned (.int .i64 (L.rk k)) ∧ w2 = w' from fun w' ha => by have := rank_any ha HGB.out.lim k; rw [HRK.out k] at this; exact this)
                              obtain ⟨rk, hrk⟩ : ∃ x, L.rk k = x := ⟨_, rfl⟩
                              rw [hrk] at RA RB
                              have vv : (v != v) = false := by simp
                              have rr : ((rk : Int) != (rk : Int)) = false := by simp
                              clear hkv hmr hlt hko hrk
                              go_wp2_with (first | (go_at_call 14; with_reducible refine (GA.out _ HN.out.1).mono ?_; rintro e w5 ⟨rfl, hb5⟩; have HN5 := hid (show Av w5 A L ∧ Av w5 B b6 ∧ Below w.heap.size w w5 from ⟨HN.out.1.on hb5, HN.out.2.1.on hb5, btr HN.out.2.2 hb5⟩); have HM5 := hid (HMN.out.on hb5); clear hb5 GA) | (go_at_call 14; with_reducible refine (GB.out _ HN5.out.2.1).mono ?_; rintro e w6 ⟨rfl, hb6⟩; have HN6 := hid (show Av w6 A L ∧ Av w6 B b6 ∧ Below w.heap.size w w6 from ⟨HN5.out.1.on hb6, HN5.out.2.1.on hb6, btr HN5.out.2.2 hb6⟩); have HM6 := hid (HM5.out.on hb6); clear hb6 GB) | (go_at_call 15; with_reducible refine (RA.out _ HN6.out.1).mono ?_; rintro e w7 ⟨rfl, rfl⟩) | (go_at_call 15; with_reducible refine (RB.out _ HN6.out.2.1).mono ?_; rintro e w7 ⟨rfl, rfl⟩))
                              go_roundw
                              case rel => exact ⟨cn, HM6, HN6⟩
                              case measure =>
                                rw [HM6.out.left, HLE.out]
                                exact HLT.out
                    · have hjl : j < order.length := by rw [HN2.out]; omega
                      obtain ⟨x, hx⟩ : ∃ x, order.getD j 0 = x := ⟨_, rfl⟩
                      obtain ⟨g2, o2, rfl, hc2⟩ := HV2.out.at HB.out hjl
                      have HC2 := hid (show ∀ w', Below w.heap.size w w' → w'.cell? ⟨g2, o2 + j, none⟩ = some (.int .i64 x) from by
                        intro w' hw'
                        obtain ⟨b', off', e, h1⟩ := HV2.out.at hw' hjl
                        cases e
                        rw [h1, hx])
                      rw [hx] at hc2
                      have hsp : order.drop j = x :: order.drop (j + 1) := by
                        rw [List.drop_eq_getElem_cons hjl]
                        congr 1
                        rw [← hx]; simp [List.getD, hjl]
                      obtain ⟨u, hrun⟩ := HV.out.m.look2 x (by rw [← hx]; exact HR2.out _ (getD_mem hjl))
                      obtain ⟨h1, h2, h3, h4⟩ := HP5.out
                      have gb : Gd b5 := ⟨h1, by have := HL.out; omega⟩
                      have f1 : (j : Int) < (n2 : Int) := by omega
                      have f2 : (0 : Int) ≤ (j : Int) := by omega
                      have ct1 : ((j : Int)).toNat = j := by omega
                      have wj : IntKind.i64.wrap ((j : Int) + 1) = ((j + 1 : Nat) : Int) := by simp [IntKind.wrap, IntKind.bits, IntKind.signed]; omega
                      have HJM := hid (show j + 1 ≤ n2 ∧ n2 - (j + 1) < n2 - j by omega)
                      cases hs : (L.get x).isSome with
                      | true =>
                        rw [hs] at hrun
                        have HP6 := hid (show T.ok b5 ∧ b5.n ≤ 2 * n2 + n0 ∧ (∀ k v, L.get k = some v → b5.get k = some v) ∧ Ins b5 (fun k => (L.get k).isSome = true ∨ k ∈ order.drop (j + 1) ∨ k ∈ keys) from by
                          refine ⟨h1, h2, h3, h4.mono ?_⟩
                          intro k hk
                          rcases hk with h | h | h
                          · exact Or.inl h
                          · rw [hsp] at h
                            rcases List.mem_cons.1 h with e | h
                            · exact Or.inl (by rw [e]; exact hs)
                            · exact Or.inr (Or.inl h)
                          · exact Or.inr (Or.inr h))
                        obtain ⟨j1, hj1⟩ : ∃ j1, j + 1 = j1 := ⟨_, rfl⟩
                        rw [hj1] at wj HJM HP6
                        clear hj hjn hjl hx hsp h1 h2 h3 h4 gb hs hj1 HP5
                        go_wp2_with fail
                        go_roundw
                        case rel => exact ⟨j1, b5, HJM.out.1, rfl, HV, HP6⟩
                        case measure => simpa [intOf] using HJM.out.2
                      | false =>
                        rw [hs] at hrun
                        have PT := hid (drop_w (w0 := w) HV.out.b gb x)
                        have HP6 := hid (show T.ok (b5.drop x) ∧ (b5.drop x).n ≤ 2 * n2 + n0 ∧ (∀ k v, L.get k = some v → (b5.drop x).get k = some v) ∧ Ins (b5.drop x) (fun k => (L.get k).isSome = true ∨ k ∈ order.drop (j + 1) ∨ k ∈ keys) from by
                          refine ⟨h1.drop x, Nat.le_trans (T.n_drop_le h1 x) h2, ?_, h4.drop h1 x ?_⟩
                          · intro k v hk
                            rw [T.get_drop h1, if_neg (fun e => by rw [e] at hk; rw [hk] at hs; simp at hs)]
                            exact h3 k v hk
                          · intro k hne hk
                            rcases hk with h | h | h
                            · exact Or.inl h
                            · rw [hsp] at h
                              rcases List.mem_cons.1 h with e | h
                              · exact absurd e hne
                              · exact Or.inr (Or.inl h)
                            · exact Or.inr (Or.inr h))
                        obtain ⟨j1, hj1⟩ : ∃ j1, j + 1 = j1 := ⟨_, rfl⟩
                        rw [hj1] at wj HJM HP6
                        clear hj hjn hjl hx hsp h1 h2 h3 h4 gb hs hj1 HP5
                        go_wp2_with (first | (go_at_call 12; with_reducible refine (PT.out).mono ?_; rintro e w5 ⟨a5, b5', rfl, hav5, hko5⟩; clear PT; have HV5 := hid (HV.out.turn HNE.out HLB.out hav5 hko5); clear hav5 hko5))
                        go_roundw
                        case rel => exact ⟨j1, b5.drop x, HJM.out.1, rfl, HV5, HP6⟩
                        case measure => simpa [intOf] using HJM.out.2
                | succ k =>
                  have ek : ((k + 1 : Nat) : Int) - 1 = (k : Int) := by omega
                  rw [ek]
                  have hcc2 := HCC.out
                  have f2 : (0 : Int) ≤ (k : Int) := by omega
                  have wk : IntKind.i64.wrap ((k : Int) - 1) = (k : Int) - 1 := by simp [IntKind.wrap, IntKind.bits, IntKind.signed]; omega
                  have HKM := hid (show k ≤ n0 by omega)
                  by_cases hk1 : k < n1
                  · have hkl : k < keys.length := by rw [HN0.out]; omega
                    obtain ⟨x, hx⟩ : ∃ x, keys.getD k 0 = x := ⟨_, rfl⟩
                    obtain ⟨v, hv⟩ := HLG.out k (by omega)
                    rw [hx] at hv
                    obtain ⟨g0, o0, rfl, hc0⟩ := HV0.out.at HB.out hkl
                    have HC0 := hid (show ∀ w', Below w.heap.size w w' → w'.cell? ⟨g0, o0 + k, none⟩ = some (.int .i64 x) from by
                      intro w' hw'
                      obtain ⟨b', off', e, h1⟩ := HV0.out.at hw' hkl
                      cases e
                      rw [h1, hx])
                    have wx : Wi x := by rw [← hx]; exact HR0.out _ (getD_mem hkl)
                    have HWD := hid HW.out.drew
                    have hrun := HWD.out.m.look x v wx hv
                    obtain ⟨h1, h2, h3, h4⟩ := HP4.out
                    have gb : Gd b4 := ⟨h1, by have := HL.out; omega⟩
                    have PT := hid (put_w (w0 := w) HWD.out.b gb x v)
                    have HP5 := hid (show T.ok (b4.put x v) ∧ (b4.put x v).n ≤ 2 * n2 + (n0 - k) ∧ Ins (b4.put x v) (fun k => k ∈ order ∨ k ∈ keys) ∧ ∀ i', k ≤ i' → i' < n0 → (b4.put x v).get (keys.getD i' 0) = L.get (keys.getD i' 0) from by
                      refine ⟨h1.put x v, by have := T.n_put_le h1.srt x v; omega, h3.put h1 x v (Or.inr (by rw [← hx]; exact getD_mem hkl)), ?_⟩
                      intro i' hi1 hi2
                      rw [T.get_put h1]
                      by_cases e : keys.getD i' 0 = x
                      · rw [if_pos e, e, hv]
                      · rw [if_neg e]
                        refine h4 i' ?_ hi2
                        have : i' ≠ k := fun e' => e (by rw [e', hx])
                        omega)
                    have y0 := HC0.out _ HWD.out.bel
                    have f1 : (k : Int) < (n0 : Int) := by omega
                    have f1' : (k : Int) < (n1 : Int) := by omega
                    have ct1 : ((k : Int)).toNat = k := by omega
                    clear hkl hx hc0 wx h1 h2 h3 h4 gb hk1 hm ek hcc2 HP4 hv
                    go_wp2_with fail
                    go_region_held3 (fun w' => w'.cell? ⟨g0, o0 + k, none⟩ = some (.int .i64 x)) (go_keep) (first | (go_at_call 11; with_reducible refine (PT.out).mono ?_; rintro e w5 ⟨a5, b5, rfl, hav5, hko5⟩; have HW5 := hid (HWD.out.turn HNE.out HLB.out hav5 hko5); have z0 := HC0.out _ HW5.out.bel; clear hav5 hko5))
                    go_wp2_with fail
                    go_roundw
                    case rel => exact ⟨k, b4.put x v, HKM.out, rfl, HW5, HP5⟩
                    case measure => simp [intOf]
                  · have d5 : decide ((k : Int) < (n1 : Int)) = false := by simp; omega
                    have d5' : decide (k < n1) = false := by simp; omega
                    have HP5 := hid (show T.ok b4 ∧ b4.n ≤ 2 * n2 + (n0 - k) ∧ Ins b4 (fun k => k ∈ order ∨ k ∈ keys) ∧ ∀ i', k ≤ i' → i' < n0 → b4.get (keys.getD i' 0) = L.get (keys.getD i' 0) from by
                      obtain ⟨h1, h2, h3, h4⟩ := HP4.out
                      refine ⟨h1, by omega, h3, fun i' hi1 hi2 => h4 i' (by omega) hi2⟩)
                    clear hk1 hm ek hcc2 HP4
                    go_wp2_with fail
                    go_roundw
                    case rel => exact ⟨k, b4, HKM.out, rfl, HW, HP5⟩
                    case measure => simp [intOf]
            · have hjl : j < order.length := by rw [HN2.out]; omega
              obtain ⟨x, hx⟩ : ∃ x, order.getD j 0 = x := ⟨_, rfl⟩
              obtain ⟨g2, o2, rfl, hc2⟩ := HV2.out.at HB.out hjl
              have HC2 := hid (show ∀ w', Below w.heap.size w w' → w'.cell? ⟨g2, o2 + j, none⟩ = some (.int .i64 x) from by
                intro w' hw'
                obtain ⟨b', off', e, h1⟩ := HV2.out.at hw' hjl
                cases e
                rw [h1, hx])
              rw [hx] at hc2
              have hxm : x ∈ order := by rw [← hx]; exact getD_mem hjl
              obtain ⟨hok, hbn, hins⟩ := HP.out
              have gb : Gd b := ⟨hok, by have := HL.out; omega⟩
              have PT := hid (put_w (w0 := w) HY.out.b gb x 1)
              have ok1 := hok.put x 1
              have n1' := T.n_put_le hok.srt x 1
              have ins1 := hins.put hok x 1 (Or.inl hxm)
              have gb1 : Gd (b.put x 1) := ⟨ok1, by have := HL.out; omega⟩
              obtain ⟨bb, hbb⟩ : ∃ bb, b.put x 1 = bb := ⟨_, rfl⟩
              rw [hbb] at PT ok1 n1' ins1 gb1
              have HG1 := hid gb1
              have HP1 := hid (And.intro ok1 (And.intro (show bb.n ≤ 2 * j + 1 by omega) ins1))
              have f1 : (j : Int) < (n2 : Int) := by omega
              have f2 : (0 : Int) ≤ (j : Int) := by omega
              have ct1 : ((j : Int)).toNat = j := by omega
              have wj : IntKind.i64.wrap ((j : Int) + 1) = ((j + 1 : Nat) : Int) := by simp [IntKind.wrap, IntKind.bits, IntKind.signed]; omega
              have HJM := hid (show j + 1 ≤ n2 ∧ n2 - (j + 1) < n2 - j by omega)
              have HJ2 := hid (show 2 * j + 1 + 1 = 2 * (j + 1) by omega)
              obtain ⟨j1, hj1⟩ : ∃ j1, j + 1 = j1 := ⟨_, rfl⟩
              rw [hj1] at wj HJM HJ2
              clear hj hjn hjl hx hxm hok hbn hins gb ok1 n1' ins1 gb1 hbb hj1 hcc HP
              by_cases hz : n0 = 0
              · have d3 : decide ((0 : Int) < (n0 : Int)) = false := by simp; omega
                have d3' : decide (0 < n0) = false := by simp; omega
                clear hz
                go_wp2_with (first | (go_at_call 11; with_reducible refine (PT.out).mono ?_; rintro e w5 ⟨a5, b5, rfl, hav5, hko5⟩; clear PT; have HY5 := hid (HY.out.turn HNE.out HLB.out hav5 hko5); clear hav5 hko5))
                go_roundw
                case rel => exact ⟨j1, bb, HJM.out.1, rfl, HY5, hid ⟨HP1.out.1, by have h1 := HP1.out.2.1; have h2 := HJ2.out; omega, HP1.out.2.2⟩⟩
                case measure => simpa [intOf] using HJM.out.2
              · have d3 : (0 : Int) < (n0 : Int) := by omega
                have d4 : ((n0 : Int) == 0) = false := by simp; omega
                have d4' : ¬ (n0 : Int) = 0 := by omega
                have hab : (x.tmod (n0 : Int)).natAbs < n0 := by
                  rw [Int.natAbs_tmod]
                  exact Nat.mod_lt _ (by omega)
                obtain ⟨rm, hrm⟩ : ∃ r : Int, x.tmod (n0 : Int) = r := ⟨_, rfl⟩
                rw [hrm] at hab
                have hrw : IntKind.i64.wrap rm = rm := by simp [IntKind.wrap, IntKind.bits, IntKind.signed]; omega
                have PK := hid (show ∀ kk : Nat, kk < n0 → ∃ g0 o0 y, q0 = some ⟨g0, o0, none⟩ ∧ y ∈ keys ∧ (∀ w', Below w.heap.size w w' → w'.cell? ⟨g0, o0 + kk, none⟩ = some (.int .i64 y)) ∧ (∀ w', Av w' B bb → Calls Try.prog 11 #[.pointer (some ⟨B, 0, none⟩), .int .i64 y, .int .i64 2] w' fun e w2 => ∃ a b, e = .returned (.tuple #[.int .i64 a, .bool b]) ∧ Av w2 B (bb.put y 2) ∧ Ko B w' w2) from by
                  intro kk hkk
                  have hk' : kk < keys.length := by rw [HN0.out]; exact hkk
                  obtain ⟨g0, o0, e0, h0⟩ := HV0.out.at HB.out hk'
                  refine ⟨g0, o0, keys.getD kk 0, e0, getD_mem hk', ?_, fun w' ha => put_w (w0 := w) ha HG1.out _ 2⟩
                  intro w' hw'
                  obtain ⟨b', off', e, h1⟩ := HV0.out.at hw' hk'
                  rw [e0] at e
                  cases e
                  exact h1)
                by_cases hneg : rm < 0
                · obtain ⟨kk, hkk⟩ : ∃ kk : Nat, rm + (n0 : Int) = (kk : Int) := ⟨(rm + n0).toNat, by omega⟩
                  obtain ⟨g0, o0, y, rfl, hym, hyc, hyp⟩ := PK.out kk (by omega)
                  have PT2 := hid hyp
                  have HYC := hid hyc
                  have HYM := hid hym
                  have wk : IntKind.i64.wrap (rm + (n0 : Int)) = (kk : Int) := by rw [hkk]; simp [IntKind.wrap, IntKind.bits, IntKind.signed]; omega
                  have e1 : (kk : Int) < (n0 : Int) := by omega
                  have e2 : (0 : Int) ≤ (kk : Int) := by omega
                  have ct2 : ((kk : Int)).toNat = kk := by omega
                  clear PK hyc hyp hym hab hz hkk
                  go_wp2_with (first | (go_at_call 11; with_reducible refine (PT.out).mono ?_; rintro e w5 ⟨a5, b5, rfl, hav5, hko5⟩; clear PT; have HY5 := hid (HY.out.turn HNE.out HLB.out hav5 hko5); clear hav5 hko5; refine Hid.out ?_))
                  have z2 := HC2.out _ HY5.out.bel
                  have z0 := HYC.out _ HY5.out.bel
                  refine hid ?_
                  go_wp2_with (first | (go_at_call 11; with_reducible refine (PT2.out _ HY5.out.b).mono ?_; rintro e w6 ⟨a6, b6, rfl, hav6, hko6⟩; clear PT2; have HY6 := hid (HY5.out.turn HNE.out HLB.out hav6 hko6); clear hav6 hko6))
                  go_roundw
                  case rel => exact ⟨j1, bb.put y 2, HJM.out.1, rfl, HY6, hid ⟨HP1.out.1.put y 2, by have h1 := HP1.out.2.1; have h2 := HJ2.out; have h3 := T.n_put_le HP1.out.1.srt y 2; omega, HP1.out.2.2.put HP1.out.1 y 2 (Or.inr HYM.out)⟩⟩
                  case measure => simpa [intOf] using HJM.out.2
                · obtain ⟨kk, hkk⟩ : ∃ kk : Nat, rm = (kk : Int) := ⟨rm.toNat, by omega⟩
                  obtain ⟨g0, o0, y, rfl, hym, hyc, hyp⟩ := PK.out kk (by omega)
                  have PT2 := hid hyp
                  have HYC := hid hyc
                  have HYM := hid hym
                  rw [hkk] at hrm hrw
                  have e1 : (kk : Int) < (n0 : Int) := by omega
                  have e2 : (0 : Int) ≤ (kk : Int) := by omega
                  have e3 : decide ((kk : Int) < 0) = false := by simp
                  have ct2 : ((kk : Int)).toNat = kk := by omega
                  clear PK hyc hyp hym hab hz hkk hneg
                  go_wp2_with (first | (go_at_call 11; with_reducible refine (PT.out).mono ?_; rintro e w5 ⟨a5, b5, rfl, hav5, hko5⟩; clear PT; have HY5 := hid (HY.out.turn HNE.out HLB.out hav5 hko5); clear hav5 hko5; refine Hid.out ?_))
                  have z2 := HC2.out _ HY5.out.bel
                  have z0 := HYC.out _ HY5.out.bel
                  refine hid ?_
                  go_wp2_with (first | (go_at_call 11; with_reducible refine (PT2.out _ HY5.out.b).mono ?_; rintro e w6 ⟨a6, b6, rfl, hav6, hko6⟩; clear PT2; have HY6 := hid (HY5.out.turn HNE.out HLB.out hav6 hko6); clear hav6 hko6))
                  go_roundw
                  case rel => exact ⟨j1, bb.put y 2, HJM.out.1, rfl, HY6, hid ⟨HP1.out.1.put y 2, by have h1 := HP1.out.2.1; have h2 := HJ2.out; have h3 := T.n_put_le HP1.out.1.srt y 2; omega, HP1.out.2.2.put HP1.out.1 y 2 (Or.inr HYM.out)⟩⟩
                  case measure => simpa [intOf] using HJM.out.2
        · have hi0 : j < keys.length := by rw [HN0.out]; omega
          have hi1 : j < values.length := by rw [HN1.out]; omega
          obtain ⟨x, hx⟩ : ∃ x, keys.getD j 0 = x := ⟨_, rfl⟩
          obtain ⟨y, hy⟩ : ∃ y, values.getD j 0 = y := ⟨_, rfl⟩
          obtain ⟨g0, o0, rfl, hc0⟩ := HV0.out.at HB.out hi0
          obtain ⟨g1, o1, rfl, hc1⟩ := HV1.out.at HB.out hi1
          have HCV := hid (show ∀ w', Below w.heap.size w w' → w'.cell? ⟨g0, o0 + j, none⟩ = some (.int .i64 x) ∧ w'.cell? ⟨g1, o1 + j, none⟩ = some (.int .i64 y) from by
            intro w' hw'
            obtain ⟨b', off', e, h1⟩ := HV0.out.at hw' hi0
            obtain ⟨b2', off2', e2, h2⟩ := HV1.out.at hw' hi1
            cases e
            cases e2
            exact ⟨by rw [h1, hx], by rw [h2, hy]⟩)
          have HFD := hid HF.out.drew
          have HQD := hid (HQ.out.on (below_drews (b := wr.drew) rfl rfl rfl rfl))
          obtain ⟨wu, hrun, hmu, hku⟩ := HQD.out.put (pt_ok keys values j) (by have := HL.out; omega) x y (by rw [← hx]; exact HR0.out _ (getD_mem hi0)) (by rw [← hy]; exact HR1.out _ (getD_mem hi1))
          have hnx : (pt keys values j).put x y = pt keys values (j + 1) := by rw [← hx, ← hy]; rfl
          rw [hnx] at hmu
          have HU := hid (show M1 w A B L wu from ⟨HFD.out.a.koM HQD.out hku, HFD.out.b.koM HQD.out hku, Ko.below HFD.out.bel hku HLM.out HFD.out.bel.size⟩)
          have HMU := hid hmu
          obtain ⟨y0, y1⟩ := HCV.out _ HFD.out.bel
          obtain ⟨z0, z1⟩ := HCV.out _ HU.out.bel
          have f1 : (j : Int) < (n0 : Int) := by omega
          have f1' : (j : Int) < (n1 : Int) := by omega
          have f2 : (0 : Int) ≤ (j : Int) := by omega
          have ct1 : ((j : Int)).toNat = j := by omega
          have wj : IntKind.i64.wrap ((j : Int) + 1) = ((j + 1 : Nat) : Int) := by simp [IntKind.wrap, IntKind.bits, IntKind.signed]; omega
          have HJM := hid (show j + 1 ≤ n0 ∧ n0 - (j + 1) < n0 - j by omega)
          obtain ⟨j1, hj1⟩ : ∃ j1, j + 1 = j1 := ⟨_, rfl⟩
          rw [hj1] at wj HJM HMU
          clear hj hji hi0 hi1 hx hy hc0 hc1 hnx hj1 hcc hmu hku
          go_wp2_with fail
          go_region_held3 (fun w' => w'.cell? ⟨g0, o0 + j, none⟩ = some (.int .i64 x) ∧ w'.cell? ⟨g1, o1 + j, none⟩ = some (.int .i64 y)) (go_keep) (fail)
          go_wp2_with fail
          go_roundw
          case rel => exact ⟨j1, HJM.out.1, rfl, HU, HMU⟩
          case measure => simpa [intOf] using HJM.out.2
    · have hi0 : i < keys.length := by rw [HN0.out]; omega
      have hi1 : i < values.length := by rw [HN1.out]; omega
      obtain ⟨x, hx⟩ : ∃ x, keys.getD i 0 = x := ⟨_, rfl⟩
      obtain ⟨y, hy⟩ : ∃ y, values.getD i 0 = y := ⟨_, rfl⟩
      obtain ⟨g0, o0, rfl, hc0⟩ := HV0.out.at HB.out hi0
      obtain ⟨g1, o1, rfl, hc1⟩ := HV1.out.at HB.out hi1
      have HCV := hid (show ∀ w', Below w.heap.size w w' → w'.cell? ⟨g0, o0 + i, none⟩ = some (.int .i64 x) ∧ w'.cell? ⟨g1, o1 + i, none⟩ = some (.int .i64 y) from by
        intro w' hw'
        obtain ⟨b', off', e, h1⟩ := HV0.out.at hw' hi0
        obtain ⟨b2', off2', e2, h2⟩ := HV1.out.at hw' hi1
        cases e
        cases e2
        exact ⟨by rw [h1, hx], by rw [h2, hy]⟩)
      have hok := pt_ok keys values i
      have hnn := pt_n keys values i
      have gt : Gd (pt keys values i) := ⟨hok, by have := HL.out; omega⟩
      have HFD := hid HF.out.drew
      have PT := hid (put_w (w0 := w) HFD.out.a gt x y)
      have hnx : (pt keys values i).put x y = pt keys values (i + 1) := by rw [← hx, ← hy]; rfl
      rw [hnx] at PT
      have HFX := hid (show ∀ w', Av w' A (pt keys values (i + 1)) → Ko A wr.drew w' → M1 w A B (pt keys values (i + 1)) w' from fun w' h1 h2 => ⟨h1, HFD.out.b.ko HFD.out.a h2 (Ne.symm HNE.out), Ko.below HFD.out.bel h2 HLA.out HFD.out.bel.size⟩)
      obtain ⟨y0, y1⟩ := HCV.out _ HFD.out.bel
      have f1 : (i : Int) < (n0 : Int) := by omega
      have f1' : (i : Int) < (n1 : Int) := by omega
      have f2 : (0 : Int) ≤ (i : Int) := by omega
      have ct1 : ((i : Int)).toNat = i := by omega
      have wj : IntKind.i64.wrap ((i : Int) + 1) = ((i + 1 : Nat) : Int) := by simp [IntKind.wrap, IntKind.bits, IntKind.signed]; omega
      have HJM := hid (show i + 1 ≤ n0 ∧ n0 - (i + 1) < n0 - i by omega)
      obtain ⟨j1, hj1⟩ : ∃ j1, i + 1 = j1 := ⟨_, rfl⟩
      rw [hj1] at wj HJM PT HFX
      clear hi him hi0 hi1 hx hy hc0 hc1 hok hnn gt hnx hj1 hcc
      go_wp2_with fail
      go_region_held3 (fun w' => w'.cell? ⟨g0, o0 + i, none⟩ = some (.int .i64 x) ∧ w'.cell? ⟨g1, o1 + i, none⟩ = some (.int .i64 y)) (go_keep) (first | (go_at_call 11; with_reducible refine (PT.out).mono ?_; rintro e w5 ⟨a5, b5, rfl, hav5, hko5⟩; have HM5 := hid (HFX.out _ hav5 hko5); obtain ⟨z0, z1⟩ := HCV.out _ HM5.out.bel; clear hav5 hko5))
      go_wp2_with fail
      go_roundw
      case rel => exact ⟨j1, HJM.out.1, rfl, HM5⟩
      case measure => simpa [intOf] using HJM.out.2
set_option maxHeartbeats 16000000 in
set_option maxRecDepth 100000 in
theorem map_walkG (q0 : Option Addr) (cap0 : Nat) (keys : List Int) (q1 : Option Addr) (cap1 : Nat) (values : List Int) (q2 : Option Addr) (cap2 : Nat) (order : List Int) (w : World) (hv0 : Vs w q0 keys) (hv1 : Vs w q1 values) (hv2 : Vs w q2 order) (hl : keys.length + values.length + order.length ≤ 1048576)
    (r0 : ∀ x ∈ keys, Wi x) (r1 : ∀ x ∈ values, Wi x) (r2 : ∀ x ∈ order, Wi x) (hc : values.length < keys.length) :
    Calls Try.prog 4 #[.slice q0 keys.length cap0, .slice q1 values.length cap1, .slice q2 order.length cap2] w fun e w' => e = .returned (.bool true) ∧ Below w.heap.size w w' := by
  have HL := hid hl
  have HV0 := hid hv0
  have HV1 := hid hv1
  have HV2 := hid hv2
  have HR0 := hid r0
  have HR1 := hid r1
  have HR2 := hid r2
  obtain ⟨n0, hn0⟩ : ∃ n, keys.length = n := ⟨_, rfl⟩
  obtain ⟨n1, hn1⟩ : ∃ n, values.length = n := ⟨_, rfl⟩
  obtain ⟨n2, hn2⟩ : ∃ n, order.length = n := ⟨_, rfl⟩
  rw [hn0, hn1, hn2] at HL hl ⊢
  have HN0 := hid hn0
  have HN1 := hid hn1
  have HN2 := hid hn2
  have hc' : n1 < n0 := by omega
  have b0 : (n0 : Int) ≤ 1048576 := by omega
  have b1 : (n1 : Int) ≤ 1048576 := by omega
  have b2 : (n2 : Int) ≤ 1048576 := by omega
  have NEW := hid (show M1 w w.heap.size (w.heap.size + 1) .nil ((w.alloc (.cells #[.pointer none] 32)).alloc (.cells #[.pointer none] 32)) from
    ⟨(av_new w).on (ball _ _), by have := av_new (w.alloc (.cells #[.pointer none] 32)); simpa using this, btr (ball _ _) (ball _ _)⟩)
  have HNE := hid (show w.heap.size ≠ w.heap.size + 1 by omega)
  obtain ⟨A, hA⟩ : ∃ A, w.heap.size = A := ⟨_, rfl⟩
  obtain ⟨B, hB⟩ : ∃ B, A + 1 = B := ⟨_, rfl⟩
  have HLA := hid (show w.heap.size ≤ A by omega)
  have HLB := hid (show w.heap.size ≤ B by omega)
  have HAE := hid hA
  have HBE := hid hB
  have HCC := hid hc'
  clear hc hc' hl hv0 hv1 hv2 hn0 hn1 hn2 r0 r1 r2 hA hB
  go_enter Try.func4, Try.ntmps4
  go_wp2_with fail
  rw [HAE.out, HBE.out] at NEW HNE
  rw [HAE.out, HBE.out]
  go_loopw [9] (fun iv wr => ∃ i : Nat, i ≤ n1 ∧ iv = .int .i64 i ∧ Hid (M1 w A B (pt keys values i) wr)) (fun iv _ => n0 - (intOf iv).toNat)
  case atStart => exact ⟨0, Nat.zero_le _, rfl, NEW⟩
  case round =>
    obtain ⟨i, hi, rfl, HF⟩ := hrel
    clear NEW
    have HB := hid HF.out.bel
    have hcc := HCC.out
    by_cases him : i = n1
    · have him' := him.symm
      subst him'
      clear him
      have f0 : (n1 : Int) < (n0 : Int) := by omega
      have d1 : decide ((n1 : Int) < (n1 : Int)) = false := by simp
      have MD := hid (Mq.made wr)
      have HBM := hid (ball wr (.map #[] 0))
      have HM0 := hid (HF.out.step (ball wr (.map #[] 0)))
      have hmm := @run_makeMap Try.prog
      clear hi
      go_wp2_with fail
      obtain ⟨M, hM⟩ : ∃ M, wr.heap.size = M := ⟨_, rfl⟩
      rw [hM] at MD
      rw [hM]
      have HLM := hid (show w.heap.size ≤ M by rw [← hM]; exact HB.out.size)
      have hLok := pt_ok keys values n1
      have hLn := pt_n keys values n1
      have HLG := hid (show ∀ k, k < n1 → ∃ v, (pt keys values n1).get (keys.getD k 0) = some v from pt_get keys values n1)
      have HLF := hid (show ∀ k v, (pt keys values n1).get k = some v → ∃ j, j < n1 ∧ keys.getD j 0 = k from pt_from keys values n1)
      obtain ⟨L, hL⟩ : ∃ L, pt keys values n1 = L := ⟨_, rfl⟩
      rw [hL] at HM0 hLok hLn HLG HLF
      have HLOK := hid hLok
      have HLN := hid hLn
      have HPT := hid hL
      clear hM HF HB HBM hLok hLn hL hmm
      go_loopw [11] (fun iv wr => ∃ j : Nat, j ≤ n1 ∧ iv = .int .i64 j ∧ Hid (M1 w A B L wr) ∧ Hid (Mq wr M j (pt keys values j))) (fun iv _ => n1 - (intOf iv).toNat)
      case atStart => exact ⟨0, Nat.zero_le _, rfl, HM0, MD⟩
      case round =>
        obtain ⟨j, hj, rfl, HF, HQ⟩ := hrel
        clear HM0 MD
        have HB := hid HF.out.bel
        by_cases hji : j = n1
        · have hji' := hji.symm
          subst hji'
          clear hji
          have HZ := hid (show Mz w A B M n1 L .nil wr from ⟨HF.out.a, HF.out.b, by have := HQ.out; rw [HPT.out] at this; exact this, HF.out.bel⟩)
          clear HF HQ HB hj
          go_wp2_with fail
          go_loopw [12, 13] (fun iv _ wr => ∃ (j : Nat) (b : T), j ≤ n2 ∧ iv = .int .i64 j ∧ Hid (Mz w A B M n1 L b wr) ∧ Hid (T.ok b ∧ b.n ≤ 2 * j ∧ Ins b (fun k => k ∈ order ∨ k ∈ keys))) (fun iv _ _ => n2 - (intOf iv).toNat)
          case atStart => exact ⟨0, .nil, Nat.zero_le _, rfl, HZ, hid ⟨T.ok_nil, by simp [T.n], fun k hk => by simp [T.get, T.find, T.val] at hk⟩⟩
          case round =>
            obtain ⟨j, b, hj, rfl, HY, HP⟩ := hrel
            clear HZ
            have HB := hid HY.out.bel
            by_cases hjn : j = n2
            · have hjn' := hjn.symm
              subst hjn'
              have d2 : decide ((n2 : Int) < (n2 : Int)) = false := by simp
              have w1 : IntKind.i64.wrap ((n0 : Int) - 1) = (n0 : Int) - 1 := by simp [IntKind.wrap, IntKind.bits, IntKind.signed]; omega
              clear hj hjn HB
              go_wp2_with fail
              go_loopw [14] (fun iv wr => ∃ (m : Nat) (b : T), m ≤ n0 ∧ iv = .int .i64 ((m : Int) - 1) ∧ Hid (Mz w A B M n1 L b wr) ∧ Hid (T.ok b ∧ b.n ≤ 2 * n2 + (n0 - m) ∧ Ins b (fun k => k ∈ order ∨ k ∈ keys) ∧ ∀ i', m ≤ i' → i' < n1 → b.get (keys.getD i' 0) = L.get (keys.getD i' 0))) (fun iv _ => ((intOf iv) + 1).toNat)
              case atStart => exact ⟨n0, b, Nat.le_refl _, rfl, HY, hid ⟨HP.out.1, by have := HP.out.2.1; omega, HP.out.2.2, fun i' h1 h2 => absurd h2 (by have := HCC.out; omega)⟩⟩
              case round =>
                obtain ⟨m, b4, hm, rfl, HW, HP4⟩ := hrel
                clear HY HP w1
                have HB := hid HW.out.bel
                cases m with
                | zero =>
                  have HX5 := hid (show T.ok b4 ∧ b4.n ≤ 2 * n2 + n0 ∧ (∀ k v, L.get k = some v → b4.get k = some v) ∧ Ins b4 (fun k => (L.get k).isSome = true ∨ k ∈ order.drop 0 ∨ k ∈ keys) from by
                    obtain ⟨h1, h2, h3, h4⟩ := HP4.out
                    refine ⟨h1, by omega, ?_, ?_⟩
                    · intro k v hk
                      obtain ⟨i', hi', rfl⟩ := HLF.out k v hk
                      rw [h4 i' (by omega) hi', hk]
                    · intro k hk
                      rcases h3 k hk with h | h
                      · exact Or.inr (Or.inl (by simpa using h))
                      · exact Or.inr (Or.inr h))
                  simp only [Int.natCast_zero, Int.zero_sub]
                  clear HP4 hm HB
                  go_wp2_with fail
                  go_loopw [15, 16, 17] (fun iv _ _ wr => ∃ (j : Nat) (b : T), j ≤ n2 ∧ iv = .int .i64 j ∧ Hid (Mz w A B M n1 L b wr) ∧ Hid (T.ok b ∧ b.n ≤ 2 * n2 + n0 ∧ (∀ k v, L.get k = some v → b.get k = some v) ∧ Ins b (fun k => (L.get k).isSome = true ∨ k ∈ order.drop j ∨ k ∈ keys))) (fun iv _ _ _ => n2 - (intOf iv).toNat)
                  case atStart => exact ⟨0, b4, Nat.zero_le _, rfl, HW, HX5⟩
                  case round =>
                    obtain ⟨j, b5, hj, rfl, HV, HP5⟩ := hrel
                    clear HW HX5
                    have HB := hid HV.out.bel
                    by_cases hjn : j = n2
                    · have hjn' := hjn.symm
                      subst hjn'
                      have d6 : decide ((n2 : Int) < (n2 : Int)) = false := by simp
                      have HX6 := hid (show T.ok b5 ∧ b5.n ≤ 2 * n2 + n0 ∧ (∀ k v, L.get k = some v → b5.get k = some v) ∧ Ins b5 (fun k => (L.get k).isSome = true ∨ k ∈ keys.drop n1) from by
                        obtain ⟨h1, h2, h3, h4⟩ := HP5.out
                        refine ⟨h1, h2, h3, ?_⟩
                        intro k hk
                        rcases h4 k hk with h | h | h
                        · exact Or.inl h
                        · rw [List.drop_eq_nil_of_le (by rw [HN2.out]; omega)] at h; simp at h
                        · obtain ⟨i', hi', rfl⟩ := mem_getD h
                          rw [HN0.out] at hi'
                          have hcc3 := HCC.out
                          by_cases hK : i' < n1
                          · obtain ⟨v, hv⟩ := HLG.out i' hK
                            exact Or.inl (by rw [hv]; rfl)
                          · refine Or.inr ?_
                            have h5 : n1 ≤ i' := by omega
                            rw [List.mem_iff_getElem]
                            have h6 : i' < keys.length := by rw [HN0.out]; exact hi'
                            exact ⟨i' - n1, by simp; omega, by simp [List.getD, h6, show n1 + (i' - n1) = i' by omega]⟩)
                      clear hj hjn HB HP5
                      go_wp2_with fail
                      go_loopw [18, 19, 20] (fun iv _ _ wr => ∃ (i : Nat) (b : T), n1 ≤ i ∧ i ≤ n0 + n1 ∧ iv = .int .i64 i ∧ Hid (Mz w A B M n1 L b wr) ∧ Hid (T.ok b ∧ b.n ≤ 2 * n2 + n0 ∧ (∀ k v, L.get k = some v → b.get k = some v) ∧ Ins b (fun k => (L.get k).isSome = true ∨ k ∈ keys.drop i))) (fun iv _ _ _ => n0 - (intOf iv).toNat)
                      case atStart => exact ⟨n1, b5, Nat.le_refl _, by omega, rfl, HV, HX6⟩
                      case round =>
                        obtain ⟨i, b6, hi1, hi2, rfl, HU, HP6⟩ := hrel
                        clear HV HX6
                        have HB := hid HU.out.bel
                        by_cases hjn : i < n0
                        · have hjl : i < keys.length := by rw [HN0.out]; omega
                          obtain ⟨x, hx⟩ : ∃ x, keys.getD i 0 = x := ⟨_, rfl⟩
                          obtain ⟨g2, o2, rfl, hc2⟩ := HV0.out.at HB.out hjl
                          rw [hx] at hc2
                          have hsp : keys.drop i = x :: keys.drop (i + 1) := by
                            rw [List.drop_eq_getElem_cons hjl]
                            congr 1
                            rw [← hx]; simp [List.getD, hjl]
                          obtain ⟨u, hrun⟩ := HU.out.m.look2 x (by rw [← hx]; exact HR0.out _ (getD_mem hjl))
                          obtain ⟨h1, h2, h3, h4⟩ := HP6.out
                          have gb : Gd b6 := ⟨h1, by have := HL.out; omega⟩
                          have f1 : (i : Int) < (n0 : Int) := by omega
                          have f2 : (0 : Int) ≤ (i : Int) := by omega
                          have ct1 : ((i : Int)).toNat = i := by omega
                          have wj : IntKind.i64.wrap ((i : Int) + 1) = ((i + 1 : Nat) : Int) := by simp [IntKind.wrap, IntKind.bits, IntKind.signed]; omega
                          have HJM := hid (show n1 ≤ i + 1 ∧ i + 1 ≤ n0 + n1 ∧ n0 - (i + 1) < n0 - i by omega)
                          cases hs : (L.get x).isSome with
                          | true =>
                            rw [hs] at hrun
                            have HP7 := hid (show T.ok b6 ∧ b6.n ≤ 2 * n2 + n0 ∧ (∀ k v, L.get k = some v → b6.get k = some v) ∧ Ins b6 (fun k => (L.get k).isSome = true ∨ k ∈ keys.drop (i + 1)) from by
                              refine ⟨h1, h2, h3, h4.mono ?_⟩
                              intro k hk
                              rcases hk with h | h
                              · exact Or.inl h
                              · rw [hsp] at h
                                rcases List.mem_cons.1 h with e | h
                                · exact Or.inl (by rw [e]; exact hs)
                                · exact Or.inr h)
                            obtain ⟨j1, hj1⟩ : ∃ j1, i + 1 = j1 := ⟨_, rfl⟩
                            rw [hj1] at wj HJM HP7
                            clear hi1 hi2 hjn hjl hx hsp h1 h2 h3 h4 gb hs hj1 HP6
                            go_wp2_with fail
                            go_roundw
                            case rel => exact ⟨j1, b6, HJM.out.1, HJM.out.2.1, rfl, HU, HP7⟩
                            case measure => simpa [intOf] using HJM.out.2.2
                          | false =>
                            rw [hs] at hrun
                            have PT := hid (drop_w (w0 := w) HU.out.b gb x)
                            have HP7 := hid (show T.ok (b6.drop x) ∧ (b6.drop x).n ≤ 2 * n2 + n0 ∧ (∀ k v, L.get k = some v → (b6.drop x).get k = some v) ∧ Ins (b6.drop x) (fun k => (L.get k).isSome = true ∨ k ∈ keys.drop (i + 1)) from by
                              refine ⟨h1.drop x, Nat.le_trans (T.n_drop_le h1 x) h2, ?_, h4.drop h1 x ?_⟩
                              · intro k v hk
                                rw [T.get_drop h1, if_neg (fun e => by rw [e] at hk; rw [hk] at hs; simp at hs)]
                                exact h3 k v hk
                              · intro k hne hk
                                rcases hk with h | h
                                · exact Or.inl h
                                · rw [hsp] at h
                                  rcases List.mem_cons.1 h with e | h
                                  · exact absurd e hne
                                  · exact Or.inr h)
                            obtain ⟨j1, hj1⟩ : ∃ j1, i + 1 = j1 := ⟨_, rfl⟩
                            rw [hj1] at wj HJM HP7
                            clear hi1 hi2 hjn hjl hx hsp h1 h2 h3 h4 gb hs hj1 HP6
                            go_wp2_with (first | (go_at_call 12; with_reducible refine (PT.out).mono ?_; rintro e w5 ⟨a5, b5', rfl, hav5, hko5⟩; clear PT; have HU5 := hid (HU.out.turn HNE.out HLB.out hav5 hko5); clear hav5 hko5))
                            go_roundw
                            case rel => exact ⟨j1, b6.drop x, HJM.out.1, HJM.out.2.1, rfl, HU5, HP7⟩
                            case measure => simpa [intOf] using HJM.out.2.2
                        · have d7 : decide ((i : Int) < (n0 : Int)) = false := by simp; omega
                          have d7' : decide (i < n0) = false := by simp; omega
                          obtain ⟨h1, h2, h3, h4⟩ := HP6.out
                          have hget : ∀ k, L.get k = b6.get k := by
                            intro k
                            cases hk : L.get k with
                            | some v => rw [h3 k v hk]
                            | none =>
                              cases hb : b6.get k with
                              | none => rfl
                              | some u =>
                                rcases h4 k (by rw [hb]; rfl) with h | h
                                · rw [hk] at h; simp at h
                                · rw [List.drop_eq_nil_of_le (by rw [HN0.out]; omega)] at h; simp at h
                          have hto := toL_ext HLOK.out h1 hget
                          have HGE := hid hget
                          have HRK := hid (show ∀ k, b6.rk k = L.rk k from fun k => (rk_ext HLOK.out h1 hto k).symm)
                          have hbn : b6.n = L.n := (n_ext hto).symm
                          have gl : Gd L := ⟨HLOK.out, by have := HLN.out; have := HL.out; omega⟩
                          have gb : Gd b6 := ⟨h1, by have := HL.out; omega⟩
                          have HGL := hid gl
                          have HGB := hid gb
                          have LA := hid (len_any HU.out.a)
                          have LB := hid (len_any HU.out.b)
                          rw [hbn] at LB
                          have hlen := fun ty => HU.out.m.len ty
                          obtain ⟨ln, hln⟩ : ∃ n, L.n = n := ⟨_, rfl⟩
                          rw [hln] at LA LB hlen
                          have lne : ((ln : Int) != (ln : Int)) = false := by simp
                          obtain ⟨wq, cnt, hrange, hmr, hbq⟩ := HU.out.m.range
                          obtain ⟨r, hr⟩ : ∃ r, wr.heap.size = r := ⟨_, rfl⟩
                          rw [hr] at hrange hmr
                          have HMR := hid hmr
                          have HUQ := hid (show Av wq A L ∧ Av wq B b6 ∧ Below w.heap.size w wq from ⟨HU.out.a.on hbq, HU.out.b.on hbq, btr HB.out hbq⟩)
                          have HRL := hid (show w.heap.size ≤ r by rw [← hr]; exact HB.out.size)
                          clear hi1 hi2 hjn h1 h2 h3 h4 hget hto hbn gl gb hln hmr hbq hr HP6
                          go_wp2_with (first | (go_at_call 13; with_reducible refine (LA.out).mono ?_; rintro e w5 ⟨rfl, rfl⟩) | (go_at_call 13; with_reducible refine (LB.out).mono ?_; rintro e w5 ⟨rfl, rfl⟩))
                          go_loopw [21, 22, 23, 24, 25, 26] (fun _ _ _ _ _ _ wr => ∃ cnt, Hid (Mr wr M r n1 L cnt) ∧ Hid (Av wr A L ∧ Av wr B b6 ∧ Below w.heap.size w wr)) (fun _ _ _ _ _ _ wr => wr.rangeLeft M r)
                          case atStart => exact ⟨cnt, HMR, HUQ⟩
                          case round =>
                            obtain ⟨cnt', HMR', HUQ'⟩ := hrel
                            clear HMR HUQ HU LA LB hlen hrange
                            have HLE := hid HMR'.out.left
                            rcases HMR'.out.next with hdone | ⟨k, v, wn, cn, hkv, hnext, hentry, hmr, hlt, hko⟩
                            · go_wp2_with fail
                              go_ret
                              exact ⟨rfl, HUQ'.out.2.2⟩
                            · have HN := hid (show Av wn A L ∧ Av wn B b6 ∧ Below w.heap.size w wn from ⟨HUQ'.out.1.koR HMR'.out hko, HUQ'.out.2.1.koR HMR'.out hko, Ko.below HUQ'.out.2.2 hko HRL.out HUQ'.out.2.2.size⟩)
                              have HMN := hid hmr
                              have HLT := hid hlt
                              have GA := hid (show ∀ w', Av w' A L → Calls Try.prog 14 #[.pointer (some ⟨A, 0, none⟩), .int .i64 k] w' fun e w2 => e = .returned (.tuple #[.int .i64 v, .bool true]) ∧ Below w'.heap.size w' w2 from fun w' ha => by have := get_any ha k; rw [hkv] at this; exact this)
                              have GB := hid (show ∀ w', Av w' B b6 → Calls Try.prog 14 #[.pointer (some ⟨B, 0, none⟩), .int .i64 k] w' fun e w2 => e = .returned (.tuple #[.int .i64 v, .bool true]) ∧ Below w'.heap.size w' w2 from fun w' ha => by have := get_any ha k; rw [← HGE.out k, hkv] at this; exact this)
                              have RA := hid (show ∀ w', Av w' A L → Calls Try.prog 15 #[.pointer (some ⟨A, 0, none⟩), .int .i64 k] w' fun e w2 => e = .returned (.int .i64 (L.rk k)) ∧ w2 = w' from fun w' ha => rank_any ha HGL.out.lim k)
                              have RB := hid (show ∀ w', Av w' B b6 → Calls Try.prog 15 #[.pointer (some ⟨B, 0, none⟩), .int .i64 k] w' fun e w2 => e = .returned (.int .i64 (L.rk k)) ∧ w2 = w' from fun w' ha => by have := rank_any ha HGB.out.lim k; rw [HRK.out k] at this; exact this)
                              obtain ⟨rk, hrk⟩ : ∃ x, L.rk k = x := ⟨_, rfl⟩
                              rw [hrk] at RA RB
                              have vv : (v != v) = false := by simp
                              have rr : ((rk : Int) != (rk : Int)) = false := by simp
                              clear hkv hmr hlt hko hrk
                              go_wp2_with (first | (go_at_call 14; with_reducible refine (GA.out _ HN.out.1).mono ?_; rintro e w5 ⟨rfl, hb5⟩; have HN5 := hid (show Av w5 A L ∧ Av w5 B b6 ∧ Below w.heap.size w w5 from ⟨HN.out.1.on hb5, HN.out.2.1.on hb5, btr HN.out.2.2 hb5⟩); have HM5 := hid (HMN.out.on hb5); clear hb5 GA) | (go_at_call 14; with_reducible refine (GB.out _ HN5.out.2.1).mono ?_; rintro e w6 ⟨rfl, hb6⟩; have HN6 := hid (show Av w6 A L ∧ Av w6 B b6 ∧ Below w.heap.size w w6 from ⟨HN5.out.1.on hb6, HN5.out.2.1.on hb6, btr HN5.out.2.2 hb6⟩); have HM6 := hid (HM5.out.on hb6); clear hb6 GB) | (go_at_call 15; with_reducible refine (RA.out _ HN6.out.1).mono ?_; rintro e w7 ⟨rfl, rfl⟩) | (go_at_call 15; with_reducible refine (RB.out _ HN6.out.2.1).mono ?_; rintro e w7 ⟨rfl, rfl⟩))
                              go_roundw
                              case rel => exact ⟨cn, HM6, HN6⟩
                              case measure =>
                                rw [HM6.out.left, HLE.out]
                                exact HLT.out
                    · have hjl : j < order.length := by rw [HN2.out]; omega
                      obtain ⟨x, hx⟩ : ∃ x, order.getD j 0 = x := ⟨_, rfl⟩
                      obtain ⟨g2, o2, rfl, hc2⟩ := HV2.out.at HB.out hjl
                      have HC2 := hid (show ∀ w', Below w.heap.size w w' → w'.cell? ⟨g2, o2 + j, none⟩ = some (.int .i64 x) from by
                        intro w' hw'
                        obtain ⟨b', off', e, h1⟩ := HV2.out.at hw' hjl
                        cases e
                        rw [h1, hx])
                      rw [hx] at hc2
                      have hsp : order.drop j = x :: order.drop (j + 1) := by
                        rw [List.drop_eq_getElem_cons hjl]
                        congr 1
                        rw [← hx]; simp [List.getD, hjl]
                      obtain ⟨u, hrun⟩ := HV.out.m.look2 x (by rw [← hx]; exact HR2.out _ (getD_mem hjl))
                      obtain ⟨h1, h2, h3, h4⟩ := HP5.out
                      have gb : Gd b5 := ⟨h1, by have := HL.out; omega⟩
                      have f1 : (j : Int) < (n2 : Int) := by omega
                      have f2 : (0 : Int) ≤ (j : Int) := by omega
                      have ct1 : ((j : Int)).toNat = j := by omega
                      have wj : IntKind.i64.wrap ((j : Int) + 1) = ((j + 1 : Nat) : Int) := by simp [IntKind.wrap, IntKind.bits, IntKind.signed]; omega
                      have HJM := hid (show j + 1 ≤ n2 ∧ n2 - (j + 1) < n2 - j by omega)
                      cases hs : (L.get x).isSome with
                      | true =>
                        rw [hs] at hrun
                        have HP6 := hid (show T.ok b5 ∧ b5.n ≤ 2 * n2 + n0 ∧ (∀ k v, L.get k = some v → b5.get k = some v) ∧ Ins b5 (fun k => (L.get k).isSome = true ∨ k ∈ order.drop (j + 1) ∨ k ∈ keys) from by
                          refine ⟨h1, h2, h3, h4.mono ?_⟩
                          intro k hk
                          rcases hk with h | h | h
                          · exact Or.inl h
                          · rw [hsp] at h
                            rcases List.mem_cons.1 h with e | h
                            · exact Or.inl (by rw [e]; exact hs)
                            · exact Or.inr (Or.inl h)
                          · exact Or.inr (Or.inr h))
                        obtain ⟨j1, hj1⟩ : ∃ j1, j + 1 = j1 := ⟨_, rfl⟩
                        rw [hj1] at wj HJM HP6
                        clear hj hjn hjl hx hsp h1 h2 h3 h4 gb hs hj1 HP5
                        go_wp2_with fail
                        go_roundw
                        case rel => exact ⟨j1, b5, HJM.out.1, rfl, HV, HP6⟩
                        case measure => simpa [intOf] using HJM.out.2
                      | false =>
                        rw [hs] at hrun
                        have PT := hid (drop_w (w0 := w) HV.out.b gb x)
                        have HP6 := hid (show T.ok (b5.drop x) ∧ (b5.drop x).n ≤ 2 * n2 + n0 ∧ (∀ k v, L.get k = some v → (b5.drop x).get k = some v) ∧ Ins (b5.drop x) (fun k => (L.get k).isSome = true ∨ k ∈ order.drop (j + 1) ∨ k ∈ keys) from by
                          refine ⟨h1.drop x, Nat.le_trans (T.n_drop_le h1 x) h2, ?_, h4.drop h1 x ?_⟩
                          · intro k v hk
                            rw [T.get_drop h1, if_neg (fun e => by rw [e] at hk; rw [hk] at hs; simp at hs)]
                            exact h3 k v hk
                          · intro k hne hk
                            rcases hk with h | h | h
                            · exact Or.inl h
                            · rw [hsp] at h
                              rcases List.mem_cons.1 h with e | h
                              · exact absurd e hne
                              · exact Or.inr (Or.inl h)
                            · exact Or.inr (Or.inr h))
                        obtain ⟨j1, hj1⟩ : ∃ j1, j + 1 = j1 := ⟨_, rfl⟩
                        rw [hj1] at wj HJM HP6
                        clear hj hjn hjl hx hsp h1 h2 h3 h4 gb hs hj1 HP5
                        go_wp2_with (first | (go_at_call 12; with_reducible refine (PT.out).mono ?_; rintro e w5 ⟨a5, b5', rfl, hav5, hko5⟩; clear PT; have HV5 := hid (HV.out.turn HNE.out HLB.out hav5 hko5); clear hav5 hko5))
                        go_roundw
                        case rel => exact ⟨j1, b5.drop x, HJM.out.1, rfl, HV5, HP6⟩
                        case measure => simpa [intOf] using HJM.out.2
                | succ k =>
                  have ek : ((k + 1 : Nat) : Int) - 1 = (k : Int) := by omega
                  rw [ek]
                  have hcc2 := HCC.out
                  have f2 : (0 : Int) ≤ (k : Int) := by omega
                  have wk : IntKind.i64.wrap ((k : Int) - 1) = (k : Int) - 1 := by simp [IntKind.wrap, IntKind.bits, IntKind.signed]; omega
                  have HKM := hid (show k ≤ n0 by omega)
                  by_cases hk1 : k < n1
                  · have hkl : k < keys.length := by rw [HN0.out]; omega
                    obtain ⟨x, hx⟩ : ∃ x, keys.getD k 0 = x := ⟨_, rfl⟩
                    obtain ⟨v, hv⟩ := HLG.out k (by omega)
                    rw [hx] at hv
                    obtain ⟨g0, o0, rfl, hc0⟩ := HV0.out.at HB.out hkl
                    have HC0 := hid (show ∀ w', Below w.heap.size w w' → w'.cell? ⟨g0, o0 + k, none⟩ = some (.int .i64 x) from by
                      intro w' hw'
                      obtain ⟨b', off', e, h1⟩ := HV0.out.at hw' hkl
                      cases e
                      rw [h1, hx])
                    have wx : Wi x := by rw [← hx]; exact HR0.out _ (getD_mem hkl)
                    have HWD := hid HW.out.drew
                    have hrun := HWD.out.m.look x v wx hv
                    obtain ⟨h1, h2, h3, h4⟩ := HP4.out
                    have gb : Gd b4 := ⟨h1, by have := HL.out; omega⟩
                    have PT := hid (put_w (w0 := w) HWD.out.b gb x v)
                    have HP5 := hid (show T.ok (b4.put x v) ∧ (b4.put x v).n ≤ 2 * n2 + (n0 - k) ∧ Ins (b4.put x v) (fun k => k ∈ order ∨ k ∈ keys) ∧ ∀ i', k ≤ i' → i' < n1 → (b4.put x v).get (keys.getD i' 0) = L.get (keys.getD i' 0) from by
                      refine ⟨h1.put x v, by have := T.n_put_le h1.srt x v; omega, h3.put h1 x v (Or.inr (by rw [← hx]; exact getD_mem hkl)), ?_⟩
                      intro i' hi1 hi2
                      rw [T.get_put h1]
                      by_cases e : keys.getD i' 0 = x
                      · rw [if_pos e, e, hv]
                      · rw [if_neg e]
                        refine h4 i' ?_ hi2
                        have : i' ≠ k := fun e' => e (by rw [e', hx])
                        omega)
                    have y0 := HC0.out _ HWD.out.bel
                    have f1 : (k : Int) < (n0 : Int) := by omega
                    have f1' : (k : Int) < (n1 : Int) := by omega
                    have ct1 : ((k : Int)).toNat = k := by omega
                    clear hkl hx hc0 wx h1 h2 h3 h4 gb hk1 hm ek hcc2 HP4 hv
                    go_wp2_with fail
                    go_region_held3 (fun w' => w'.cell? ⟨g0, o0 + k, none⟩ = some (.int .i64 x)) (go_keep) (first | (go_at_call 11; with_reducible refine (PT.out).mono ?_; rintro e w5 ⟨a5, b5, rfl, hav5, hko5⟩; have HW5 := hid (HWD.out.turn HNE.out HLB.out hav5 hko5); have z0 := HC0.out _ HW5.out.bel; clear hav5 hko5))
                    go_wp2_with fail
                    go_roundw
                    case rel => exact ⟨k, b4.put x v, HKM.out, rfl, HW5, HP5⟩
                    case measure => simp [intOf]
                  · have d5 : decide ((k : Int) < (n1 : Int)) = false := by simp; omega
                    have d5' : decide (k < n1) = false := by simp; omega
                    have HP5 := hid (show T.ok b4 ∧ b4.n ≤ 2 * n2 + (n0 - k) ∧ Ins b4 (fun k => k ∈ order ∨ k ∈ keys) ∧ ∀ i', k ≤ i' → i' < n1 → b4.get (keys.getD i' 0) = L.get (keys.getD i' 0) from by
                      obtain ⟨h1, h2, h3, h4⟩ := HP4.out
                      refine ⟨h1, by omega, h3, fun i' hi1 hi2 => h4 i' (by omega) hi2⟩)
                    clear hk1 hm ek hcc2 HP4
                    go_wp2_with fail
                    go_roundw
                    case rel => exact ⟨k, b4, HKM.out, rfl, HW, HP5⟩
                    case measure => simp [intOf]
            · have hjl : j < order.length := by rw [HN2.out]; omega
              obtain ⟨x, hx⟩ : ∃ x, order.getD j 0 = x := ⟨_, rfl⟩
              obtain ⟨g2, o2, rfl, hc2⟩ := HV2.out.at HB.out hjl
              have HC2 := hid (show ∀ w', Below w.heap.size w w' → w'.cell? ⟨g2, o2 + j, none⟩ = some (.int .i64 x) from by
                intro w' hw'
                obtain ⟨b', off', e, h1⟩ := HV2.out.at hw' hjl
                cases e
                rw [h1, hx])
              rw [hx] at hc2
              have hxm : x ∈ order := by rw [← hx]; exact getD_mem hjl
              obtain ⟨hok, hbn, hins⟩ := HP.out
              have gb : Gd b := ⟨hok, by have := HL.out; omega⟩
              have PT := hid (put_w (w0 := w) HY.out.b gb x 1)
              have ok1 := hok.put x 1
              have n1' := T.n_put_le hok.srt x 1
              have ins1 := hins.put hok x 1 (Or.inl hxm)
              have gb1 : Gd (b.put x 1) := ⟨ok1, by have := HL.out; omega⟩
              obtain ⟨bb, hbb⟩ : ∃ bb, b.put x 1 = bb := ⟨_, rfl⟩
              rw [hbb] at PT ok1 n1' ins1 gb1
              have HG1 := hid gb1
              have HP1 := hid (And.intro ok1 (And.intro (show bb.n ≤ 2 * j + 1 by omega) ins1))
              have f1 : (j : Int) < (n2 : Int) := by omega
              have f2 : (0 : Int) ≤ (j : Int) := by omega
              have ct1 : ((j : Int)).toNat = j := by omega
              have wj : IntKind.i64.wrap ((j : Int) + 1) = ((j + 1 : Nat) : Int) := by simp [IntKind.wrap, IntKind.bits, IntKind.signed]; omega
              have HJM := hid (show j + 1 ≤ n2 ∧ n2 - (j + 1) < n2 - j by omega)
              have HJ2 := hid (show 2 * j + 1 + 1 = 2 * (j + 1) by omega)
              obtain ⟨j1, hj1⟩ : ∃ j1, j + 1 = j1 := ⟨_, rfl⟩
              rw [hj1] at wj HJM HJ2
              clear hj hjn hjl hx hxm hok hbn hins gb ok1 n1' ins1 gb1 hbb hj1 hcc HP
              by_cases hz : n0 = 0
              · have d3 : decide ((0 : Int) < (n0 : Int)) = false := by simp; omega
                have d3' : decide (0 < n0) = false := by simp; omega
                clear hz
                go_wp2_with (first | (go_at_call 11; with_reducible refine (PT.out).mono ?_; rintro e w5 ⟨a5, b5, rfl, hav5, hko5⟩; clear PT; have HY5 := hid (HY.out.turn HNE.out HLB.out hav5 hko5); clear hav5 hko5))
                go_roundw
                case rel => exact ⟨j1, bb, HJM.out.1, rfl, HY5, hid ⟨HP1.out.1, by have h1 := HP1.out.2.1; have h2 := HJ2.out; omega, HP1.out.2.2⟩⟩
                case measure => simpa [intOf] using HJM.out.2
              · have d3 : (0 : Int) < (n0 : Int) := by omega
                have d4 : ((n0 : Int) == 0) = false := by simp; omega
                have d4' : ¬ (n0 : Int) = 0 := by omega
                have hab : (x.tmod (n0 : Int)).natAbs < n0 := by
                  rw [Int.natAbs_tmod]
                  exact Nat.mod_lt _ (by omega)
                obtain ⟨rm, hrm⟩ : ∃ r : Int, x.tmod (n0 : Int) = r := ⟨_, rfl⟩
                rw [hrm] at hab
                have hrw : IntKind.i64.wrap rm = rm := by simp [IntKind.wrap, IntKind.bits, IntKind.signed]; omega
                have PK := hid (show ∀ kk : Nat, kk < n0 → ∃ g0 o0 y, q0 = some ⟨g0, o0, none⟩ ∧ y ∈ keys ∧ (∀ w', Below w.heap.size w w' → w'.cell? ⟨g0, o0 + kk, none⟩ = some (.int .i64 y)) ∧ (∀ w', Av w' B bb → Calls Try.prog 11 #[.pointer (some ⟨B, 0, none⟩), .int .i64 y, .int .i64 2] w' fun e w2 => ∃ a b, e = .returned (.tuple #[.int .i64 a, .bool b]) ∧ Av w2 B (bb.put y 2) ∧ Ko B w' w2) from by
                  intro kk hkk
                  have hk' : kk < keys.length := by rw [HN0.out]; exact hkk
                  obtain ⟨g0, o0, e0, h0⟩ := HV0.out.at HB.out hk'
                  refine ⟨g0, o0, keys.getD kk 0, e0, getD_mem hk', ?_, fun w' ha => put_w (w0 := w) ha HG1.out _ 2⟩
                  intro w' hw'
                  obtain ⟨b', off', e, h1⟩ := HV0.out.at hw' hk'
                  rw [e0] at e
                  cases e
                  exact h1)
                by_cases hneg : rm < 0
                · obtain ⟨kk, hkk⟩ : ∃ kk : Nat, rm + (n0 : Int) = (kk : Int) := ⟨(rm + n0).toNat, by omega⟩
                  obtain ⟨g0, o0, y, rfl, hym, hyc, hyp⟩ := PK.out kk (by omega)
                  have PT2 := hid hyp
                  have HYC := hid hyc
                  have HYM := hid hym
                  have wk : IntKind.i64.wrap (rm + (n0 : Int)) = (kk : Int) := by rw [hkk]; simp [IntKind.wrap, IntKind.bits, IntKind.signed]; omega
                  have e1 : (kk : Int) < (n0 : Int) := by omega
                  have e2 : (0 : Int) ≤ (kk : Int) := by omega
                  have ct2 : ((kk : Int)).toNat = kk := by omega
                  clear PK hyc hyp hym hab hz hkk
                  go_wp2_with (first | (go_at_call 11; with_reducible refine (PT.out).mono ?_; rintro e w5 ⟨a5, b5, rfl, hav5, hko5⟩; clear PT; have HY5 := hid (HY.out.turn HNE.out HLB.out hav5 hko5); clear hav5 hko5; refine Hid.out ?_))
                  have z2 := HC2.out _ HY5.out.bel
                  have z0 := HYC.out _ HY5.out.bel
                  refine hid ?_
                  go_wp2_with (first | (go_at_call 11; with_reducible refine (PT2.out _ HY5.out.b).mono ?_; rintro e w6 ⟨a6, b6, rfl, hav6, hko6⟩; clear PT2; have HY6 := hid (HY5.out.turn HNE.out HLB.out hav6 hko6); clear hav6 hko6))
                  go_roundw
                  case rel => exact ⟨j1, bb.put y 2, HJM.out.1, rfl, HY6, hid ⟨HP1.out.1.put y 2, by have h1 := HP1.out.2.1; have h2 := HJ2.out; have h3 := T.n_put_le HP1.out.1.srt y 2; omega, HP1.out.2.2.put HP1.out.1 y 2 (Or.inr HYM.out)⟩⟩
                  case measure => simpa [intOf] using HJM.out.2
                · obtain ⟨kk, hkk⟩ : ∃ kk : Nat, rm = (kk : Int) := ⟨rm.toNat, by omega⟩
                  obtain ⟨g0, o0, y, rfl, hym, hyc, hyp⟩ := PK.out kk (by omega)
                  have PT2 := hid hyp
                  have HYC := hid hyc
                  have HYM := hid hym
                  rw [hkk] at hrm hrw
                  have e1 : (kk : Int) < (n0 : Int) := by omega
                  have e2 : (0 : Int) ≤ (kk : Int) := by omega
                  have e3 : decide ((kk : Int) < 0) = false := by simp
                  have ct2 : ((kk : Int)).toNat = kk := by omega
                  clear PK hyc hyp hym hab hz hkk hneg
                  go_wp2_with (first | (go_at_call 11; with_reducible refine (PT.out).mono ?_; rintro e w5 ⟨a5, b5, rfl, hav5, hko5⟩; clear PT; have HY5 := hid (HY.out.turn HNE.out HLB.out hav5 hko5); clear hav5 hko5; refine Hid.out ?_))
                  have z2 := HC2.out _ HY5.out.bel
                  have z0 := HYC.out _ HY5.out.bel
                  refine hid ?_
                  go_wp2_with (first | (go_at_call 11; with_reducible refine (PT2.out _ HY5.out.b).mono ?_; rintro e w6 ⟨a6, b6, rfl, hav6, hko6⟩; clear PT2; have HY6 := hid (HY5.out.turn HNE.out HLB.out hav6 hko6); clear hav6 hko6))
                  go_roundw
                  case rel => exact ⟨j1, bb.put y 2, HJM.out.1, rfl, HY6, hid ⟨HP1.out.1.put y 2, by have h1 := HP1.out.2.1; have h2 := HJ2.out; have h3 := T.n_put_le HP1.out.1.srt y 2; omega, HP1.out.2.2.put HP1.out.1 y 2 (Or.inr HYM.out)⟩⟩
                  case measure => simpa [intOf] using HJM.out.2
        · have hi0 : j < keys.length := by rw [HN0.out]; omega
          have hi1 : j < values.length := by rw [HN1.out]; omega
          obtain ⟨x, hx⟩ : ∃ x, keys.getD j 0 = x := ⟨_, rfl⟩
          obtain ⟨y, hy⟩ : ∃ y, values.getD j 0 = y := ⟨_, rfl⟩
          obtain ⟨g0, o0, rfl, hc0⟩ := HV0.out.at HB.out hi0
          obtain ⟨g1, o1, rfl, hc1⟩ := HV1.out.at HB.out hi1
          have HCV := hid (show ∀ w', Below w.heap.size w w' → w'.cell? ⟨g0, o0 + j, none⟩ = some (.int .i64 x) ∧ w'.cell? ⟨g1, o1 + j, none⟩ = some (.int .i64 y) from by
            intro w' hw'
            obtain ⟨b', off', e, h1⟩ := HV0.out.at hw' hi0
            obtain ⟨b2', off2', e2, h2⟩ := HV1.out.at hw' hi1
            cases e
            cases e2
            exact ⟨by rw [h1, hx], by rw [h2, hy]⟩)
          have HFD := hid HF.out.drew
          have HQD := hid (HQ.out.on (below_drews (b := wr.drew) rfl rfl rfl rfl))
          obtain ⟨wu, hrun, hmu, hku⟩ := HQD.out.put (pt_ok keys values j) (by have := HL.out; omega) x y (by rw [← hx]; exact HR0.out _ (getD_mem hi0)) (by rw [← hy]; exact HR1.out _ (getD_mem hi1))
          have hnx : (pt keys values j).put x y = pt keys values (j + 1) := by rw [← hx, ← hy]; rfl
          rw [hnx] at hmu
          have HU := hid (show M1 w A B L wu from ⟨HFD.out.a.koM HQD.out hku, HFD.out.b.koM HQD.out hku, Ko.below HFD.out.bel hku HLM.out HFD.out.bel.size⟩)
          have HMU := hid hmu
          obtain ⟨y0, y1⟩ := HCV.out _ HFD.out.bel
          obtain ⟨z0, z1⟩ := HCV.out _ HU.out.bel
          have f1 : (j : Int) < (n0 : Int) := by omega
          have f1' : (j : Int) < (n1 : Int) := by omega
          have f2 : (0 : Int) ≤ (j : Int) := by omega
          have ct1 : ((j : Int)).toNat = j := by omega
          have wj : IntKind.i64.wrap ((j : Int) + 1) = ((j + 1 : Nat) : Int) := by simp [IntKind.wrap, IntKind.bits, IntKind.signed]; omega
          have HJM := hid (show j + 1 ≤ n1 ∧ n1 - (j + 1) < n1 - j by omega)
          obtain ⟨j1, hj1⟩ : ∃ j1, j + 1 = j1 := ⟨_, rfl⟩
          rw [hj1] at wj HJM HMU
          clear hj hji hi0 hi1 hx hy hc0 hc1 hnx hj1 hcc hmu hku
          go_wp2_with fail
          go_region_held3 (fun w' => w'.cell? ⟨g0, o0 + j, none⟩ = some (.int .i64 x) ∧ w'.cell? ⟨g1, o1 + j, none⟩ = some (.int .i64 y)) (go_keep) (fail)
          go_wp2_with fail
          go_roundw
          case rel => exact ⟨j1, HJM.out.1, rfl, HU, HMU⟩
          case measure => simpa [intOf] using HJM.out.2
    · have hi0 : i < keys.length := by rw [HN0.out]; omega
      have hi1 : i < values.length := by rw [HN1.out]; omega
      obtain ⟨x, hx⟩ : ∃ x, keys.getD i 0 = x := ⟨_, rfl⟩
      obtain ⟨y, hy⟩ : ∃ y, values.getD i 0 = y := ⟨_, rfl⟩
      obtain ⟨g0, o0, rfl, hc0⟩ := HV0.out.at HB.out hi0
      obtain ⟨g1, o1, rfl, hc1⟩ := HV1.out.at HB.out hi1
      have HCV := hid (show ∀ w', Below w.heap.size w w' → w'.cell? ⟨g0, o0 + i, none⟩ = some (.int .i64 x) ∧ w'.cell? ⟨g1, o1 + i, none⟩ = some (.int .i64 y) from by
        intro w' hw'
        obtain ⟨b', off', e, h1⟩ := HV0.out.at hw' hi0
        obtain ⟨b2', off2', e2, h2⟩ := HV1.out.at hw' hi1
        cases e
        cases e2
        exact ⟨by rw [h1, hx], by rw [h2, hy]⟩)
      have hok := pt_ok keys values i
      have hnn := pt_n keys values i
      have gt : Gd (pt keys values i) := ⟨hok, by have := HL.out; omega⟩
      have HFD := hid HF.out.drew
      have PT := hid (put_w (w0 := w) HFD.out.a gt x y)
      have hnx : (pt keys values i).put x y = pt keys values (i + 1) := by rw [← hx, ← hy]; rfl
      rw [hnx] at PT
      have HFX := hid (show ∀ w', Av w' A (pt keys values (i + 1)) → Ko A wr.drew w' → M1 w A B (pt keys values (i + 1)) w' from fun w' h1 h2 => ⟨h1, HFD.out.b.ko HFD.out.a h2 (Ne.symm HNE.out), Ko.below HFD.out.bel h2 HLA.out HFD.out.bel.size⟩)
      obtain ⟨y0, y1⟩ := HCV.out _ HFD.out.bel
      have f1 : (i : Int) < (n0 : Int) := by omega
      have f1' : (i : Int) < (n1 : Int) := by omega
      have f2 : (0 : Int) ≤ (i : Int) := by omega
      have ct1 : ((i : Int)).toNat = i := by omega
      have wj : IntKind.i64.wrap ((i : Int) + 1) = ((i + 1 : Nat) : Int) := by simp [IntKind.wrap, IntKind.bits, IntKind.signed]; omega
      have HJM := hid (show i + 1 ≤ n1 ∧ n0 - (i + 1) < n0 - i by omega)
      obtain ⟨j1, hj1⟩ : ∃ j1, i + 1 = j1 := ⟨_, rfl⟩
      rw [hj1] at wj HJM PT HFX
      clear hi him hi0 hi1 hx hy hc0 hc1 hok hnn gt hnx hj1 hcc
      go_wp2_with fail
      go_region_held3 (fun w' => w'.cell? ⟨g0, o0 + i, none⟩ = some (.int .i64 x) ∧ w'.cell? ⟨g1, o1 + i, none⟩ = some (.int .i64 y)) (go_keep) (first | (go_at_call 11; with_reducible refine (PT.out).mono ?_; rintro e w5 ⟨a5, b5, rfl, hav5, hko5⟩; have HM5 := hid (HFX.out _ hav5 hko5); obtain ⟨z0, z1⟩ := HCV.out _ HM5.out.bel; clear hav5 hko5))
      go_wp2_with fail
      go_roundw
      case rel => exact ⟨j1, HJM.out.1, rfl, HM5⟩
      case measure => simpa [intOf] using HJM.out.2

theorem map_walk (q0 : Option Addr) (cap0 : Nat) (keys : List Int) (q1 : Option Addr) (cap1 : Nat) (values : List Int) (q2 : Option Addr) (cap2 : Nat) (order : List Int) (w : World) (hv0 : Vs w q0 keys) (hv1 : Vs w q1 values) (hv2 : Vs w q2 order) (hl : keys.length + values.length + order.length ≤ 1048576)
    (r0 : ∀ x ∈ keys, Wi x) (r1 : ∀ x ∈ values, Wi x) (r2 : ∀ x ∈ order, Wi x) :
    Calls Try.prog 4 #[.slice q0 keys.length cap0, .slice q1 values.length cap1, .slice q2 order.length cap2] w fun e w' => e = .returned (.bool true) ∧ Below w.heap.size w w' := by
  by_cases hc : keys.length ≤ values.length
  · exact map_walkL q0 cap0 keys q1 cap1 values q2 cap2 order w hv0 hv1 hv2 hl r0 r1 r2 hc
  · exact map_walkG q0 cap0 keys q1 cap1 values q2 cap2 order w hv0 hv1 hv2 hl r0 r1 r2 (by omega)
end Go.Proofs.Ytldpkmegofncfaa
