/-
  AvlClones' walk.
-/
import Derived.Test.YtldpkmegofncfaaArgs
namespace Go.Proofs.Ytldpkmegofncfaa
open Go.RowKit Go.Deep
set_option linter.unusedVariables false
set_option linter.unusedSimpArgs false
theorem av_new (w : World) : Av (w.alloc (.cells #[.pointer none] 32)) w.heap.size .nil := ⟨none, heap_alloc_new _ _, rfl⟩
theorem gd_nil : Gd .nil := ⟨T.ok_nil, by decide⟩
theorem Vs.at {w w' : World} {q : Option Addr} {l : List Int} (h : Vs w q l) (hb : Below w.heap.size w w') {i : Nat} (hi : i < l.length) : ∃ b off, q = some ⟨b, off, none⟩ ∧ w'.cell? ⟨b, off + i, none⟩ = some (.int .i64 (l.getD i 0)) := by
  obtain ⟨b, off, e, hl, hc⟩ := h i hi
  refine ⟨b, off, e, ?_⟩
  rw [cell_on hc hb hl]
  simp [List.getD, hi]
/-- Put, whatever it says. -/
theorem put_w {w w0 : World} {B : Nat} {t : T} (h : Av w B t) (hg : Gd t) (key v : Int) :
    Calls Try.prog 11 #[.pointer (some ⟨B, 0, none⟩), .int .i64 key, .int .i64 v] w fun e w' => ∃ a b, e = .returned (.tuple #[.int .i64 a, .bool b]) ∧ Av w' B (t.put key v) ∧ Ko B w w' := by
  refine (put_any h hg key v).mono ?_
  rintro e w' ⟨rfl, h1, h2⟩
  obtain ⟨a, b, he⟩ := oV_eq (t.get key)
  exact ⟨a, b, by rw [he], h1, h2⟩
theorem drop_w {w w0 : World} {B : Nat} {t : T} (h : Av w B t) (hg : Gd t) (key : Int) :
    Calls Try.prog 12 #[.pointer (some ⟨B, 0, none⟩), .int .i64 key] w fun e w' => ∃ a b, e = .returned (.tuple #[.int .i64 a, .bool b]) ∧ Av w' B (t.drop key) ∧ Ko B w w' := by
  refine (drop_any h hg key).mono ?_
  rintro e w' ⟨rfl, h1, h2⟩
  obtain ⟨a, b, he⟩ := oV_eq (t.get key)
  exact ⟨a, b, by rw [he], h1, h2⟩
/-- what is kept of the keys that were put. -/
def KI (keys : List Int) (j : Nat) (t : T) : Prop := ∀ i, i < j → ∃ v : Nat, t.get (keys.getD i 0) = some (v : Int) ∧ i ≤ v ∧ v < j ∧ keys.getD v 0 = keys.getD i 0
theorem KI.put {keys : List Int} {j : Nat} {t : T} (h : KI keys j t) (hk : T.ok t) : KI keys (j + 1) (t.put (keys.getD j 0) j) := by
  intro i hi
  rw [T.get_put hk]
  by_cases e : keys.getD i 0 = keys.getD j 0
  · rw [if_pos e]
    exact ⟨j, rfl, by omega, by omega, e.symm⟩
  · rw [if_neg e]
    have hij : i < j := by
      rcases Nat.lt_or_ge i j with h1 | h1
      · exact h1
      · have : i = j := by omega
        subst this; exact absurd rfl e
    obtain ⟨v, h1, h2, h3, h4⟩ := h i hij
    exact ⟨v, h1, h2, by omega, h4⟩
/-- values not below a number. -/
def LB (b : Int) (t : T) : Prop := ∀ k v, t.get k = some v → b ≤ v
theorem LB.put {b : Int} {t : T} (h : LB b t) (hk : T.ok t) (key v : Int) (hv : b ≤ v) : LB b (t.put key v) := by
  intro k u hu
  rw [T.get_put hk] at hu
  split at hu
  · cases hu; exact hv
  · exact h k u hu
theorem LB.drop {b : Int} {t : T} (h : LB b t) (hk : T.ok t) (key : Int) : LB b (t.drop key) := by
  intro k u hu
  rw [T.get_drop hk] at hu
  split at hu
  · cases hu
  · exact h k u hu
structure C1 (w : World) (keys : List Int) (j : Nat) (wr : World) : Prop where
  tr : ∃ t, Av wr w.heap.size t ∧ T.ok t ∧ t.n ≤ j ∧ KI keys j t ∧ LB 0 t
  bel : Below w.heap.size w wr
structure C2 (w : World) (C : Nat) (t : T) (j : Nat) (wr : World) : Prop where
  one : Av wr w.heap.size t
  two : ∃ c, Av wr C c ∧ T.ok c ∧ c.n ≤ t.n + j ∧ LB (-1) c
  bel : Below w.heap.size w wr
theorem C2.step {w : World} {C : Nat} {t : T} {j : Nat} {wr w' : World} (h : C2 w C t j wr) (hb : Below wr.heap.size wr w') : C2 w C t j w' := by
  obtain ⟨h1, ⟨c, h2, h3⟩, h4⟩ := h
  exact ⟨h1.on hb, ⟨c, h2.on hb, h3⟩, btr h4 hb⟩
set_option maxHeartbeats 8000000 in
set_option maxRecDepth 100000 in
theorem clones_walk (q1 : Option Addr) (cap1 : Nat) (keys : List Int) (q2 : Option Addr) (cap2 : Nat) (more : List Int) (w : World) (hv1 : Vs w q1 keys) (hv2 : Vs w q2 more) (hl : keys.length + more.length ≤ 1048576) :
    Calls Try.prog 7 #[.slice q1 keys.length cap1, .slice q2 more.length cap2] w fun e w' => e = .returned (.bool true) ∧ Below w.heap.size w w' := by
  have NEW := hid (av_new w)
  have HL := hid hl
  have HV1 := hid hv1
  have HV2 := hid hv2
  obtain ⟨n1, hn1⟩ : ∃ n, keys.length = n := ⟨_, rfl⟩
  obtain ⟨n2, hn2⟩ : ∃ n, more.length = n := ⟨_, rfl⟩
  rw [hn1, hn2] at HL hl ⊢
  have HN1 := hid hn1
  have HN2 := hid hn2
  have b1 : (n1 : Int) ≤ 1048576 := by omega
  have b2 : (n2 : Int) ≤ 1048576 := by omega
  clear hl hv1 hv2 hn1 hn2
  go_enter Try.func7, Try.ntmps7
  go_wp2_with fail
  go_loopw [6] (fun iv wr => ∃ i : Nat, i ≤ n1 ∧ iv = .int .i64 i ∧ Hid (C1 w keys i wr)) (fun iv _ => n1 - (intOf iv).toNat)
  case atStart => exact ⟨0, Nat.zero_le _, rfl, ⟨⟨.nil, NEW.out, T.ok_nil, by simp [T.n], fun i h => by omega, fun k v h => by simp [T.get, T.find, T.val] at h⟩, ball _ _⟩⟩
  case round =>
    obtain ⟨i, hi, rfl, HF⟩ := hrel
    clear NEW
    obtain ⟨t, ha, hok, hn, hki, hlb⟩ := HF.out.tr
    have HB := hid HF.out.bel
    have gt : Gd t := ⟨hok, by have := HL.out; omega⟩
    by_cases him : i = n1
    · subst him
      have d1 : decide ((i : Int) < (i : Int)) = false := by simp
      have CL := hid (clone_any ha)
      have HT := hid (show T.ok t ∧ t.n ≤ i ∧ KI keys i t ∧ LB 0 t from ⟨hok, hn, hki, hlb⟩)
      have HA := hid ha
      clear HF hok hn hki hlb gt ha
      go_wp2_with (first | (go_at_call 23; with_reducible refine (CL.out).mono ?_; rintro e w1 ⟨rfl, hc, hb⟩; clear CL; have HC := hid hc; have HB1 := hid hb; clear hc hb; refine Hid.out ?_))
      have LN := hid (len_any HC.out)
      have LT := hid (len_any (HA.out.on HB1.out))
      have hne : ¬ wr.heap.size = w.heap.size := by have := HA.out.lt; omega
      have HNE := hid hne
      have H2 := hid (show C2 w wr.heap.size t 0 w1 from ⟨HA.out.on HB1.out, ⟨t, HC.out, HT.out.1, by omega, fun k v h => by have := HT.out.2.2.2 k v h; omega⟩, btr HB.out HB1.out⟩)
      obtain ⟨tn, htn⟩ : ∃ n, t.n = n := ⟨_, rfl⟩
      rw [htn] at LN LT
      have HTN := hid htn
      have tt : ((tn : Int) == (tn : Int)) = true := by simp
      have tne : ((tn : Int) != (tn : Int)) = false := by simp
      obtain ⟨C, hC⟩ : ∃ C, wr.heap.size = C := ⟨_, rfl⟩
      rw [hC] at H2 LN HNE hne ⊢
      have HCE := hid hC
      clear htn hne hC HA HC
      refine hid ?_
      go_wp2_with (first | (go_at_call 13; with_reducible refine (LN.out).mono ?_; rintro e w5 ⟨rfl, rfl⟩) | (go_at_call 13; with_reducible refine (LT.out).mono ?_; rintro e w5 ⟨rfl, rfl⟩))
      go_loopw [9] (fun iv wr => ∃ j : Nat, j ≤ n2 ∧ iv = .int .i64 j ∧ Hid (C2 w C t j wr)) (fun iv _ => n2 - (intOf iv).toNat)
      case atStart => exact ⟨0, Nat.zero_le _, rfl, H2⟩
      case round =>
        obtain ⟨j, hj, rfl, HG⟩ := hrel
        clear H2 LN LT
        have HB2 := hid HG.out.bel
        by_cases hjm : j = n2
        · subst hjm
          have d2 : decide ((j : Int) < (j : Int)) = false := by simp
          have w1 : IntKind.i64.wrap ((i : Int) - 1) = (i : Int) - 1 := by simp [IntKind.wrap, IntKind.bits, IntKind.signed]; omega
          clear hj
          go_wp2_with fail
          go_loopw [10, 11, 12] (fun iv _ _ wr => ∃ m : Nat, m ≤ i ∧ iv = .int .i64 ((m : Int) - 1) ∧ Hid (C2 w C t j wr)) (fun iv _ _ _ => ((intOf iv) + 1).toNat)
          case atStart => exact ⟨i, Nat.le_refl _, rfl, HG⟩
          case round =>
            obtain ⟨m, hm, rfl, HQ⟩ := hrel
            clear HG HB2 w1
            cases m with
            | zero =>
              obtain ⟨c, hc, hcok, hcn, hclb⟩ := HQ.out.two
              have gt : Gd t := ⟨HT.out.1, by have h1 := HT.out.2.1; have h2 := HL.out; omega⟩
              have PT := hid (put_w (w0 := w) HQ.out.one gt 7 (-77))
              have AF := hid (show ∀ w', Ko w.heap.size wr w' → Av w' C c from fun w' hk => hc.ko HQ.out.one hk HNE.out)
              have GC := hid (show ∀ w', Av w' C c → Calls Try.prog 14 #[.pointer (some ⟨C, 0, none⟩), .int .i64 7] w' fun e w2 => ∃ a b, (b = true → (a != (-77 : Int)) = true) ∧ e = .returned (.tuple #[.int .i64 a, .bool b]) ∧ Below w'.heap.size w' w2 from by
                intro w' ha'
                refine (get_any ha' 7).mono ?_
                rintro e w2 ⟨rfl, h2⟩
                cases hg : c.get 7 with
                | none => exact ⟨0, false, by simp, rfl, h2⟩
                | some x => exact ⟨x, true, by have := hclb 7 x hg; simp; omega, rfl, h2⟩)
              have LE := hid (show ∀ w', Av w' w.heap.size (t.put 7 (-77)) → Calls Try.prog 13 #[.pointer (some ⟨w.heap.size, 0, none⟩)] w' fun e w2 => e = .returned (.int .i64 (t.put 7 (-77)).n) ∧ w2 = w' from fun w' ha => len_any ha)
              have hge : tn ≤ (t.put 7 (-77)).n := by rw [T.n_put HT.out.1.srt, HTN.out]; omega
              obtain ⟨pn, hpn⟩ : ∃ x, (t.put 7 (-77)).n = x := ⟨_, rfl⟩
              rw [hpn] at LE hge
              have g1 : (tn : Int) ≤ (pn : Int) := by omega
              have HBQ := hid HQ.out.bel
              simp only [Int.natCast_zero, Int.zero_sub]
              clear hc hcok hcn hclb gt hpn hge hm
              go_wp2_with (first | (go_at_call 11; with_reducible refine (PT.out).mono ?_; rintro e w5 ⟨a5, b5, rfl, hav5, hko5⟩; clear PT; have HAV5 := hid hav5; have HC5 := hid (AF.out _ hko5); have HB5 := hid (Ko.below HBQ.out hko5 (Nat.le_refl _) HBQ.out.size); clear hav5 hko5) | (go_at_call 14; with_reducible refine (GC.out _ HC5.out).mono ?_; rintro e w6 ⟨a6, b6, hab, rfl, hb6⟩; have HAV6 := hid (HAV5.out.on hb6); have HB6 := hid (btr HB5.out hb6); clear hb6; refine Hid.out ?_))
              cases b6 with
              | false =>
                clear hab
                refine hid ?_
                go_wp2_with (first | (go_at_call 13; with_reducible refine (LE.out _ HAV6.out).mono ?_; rintro e w7 ⟨rfl, rfl⟩))
                go_ret
                exact ⟨rfl, HB6.out⟩
              | true =>
                have hab2 := hab rfl
                clear hab
                refine hid ?_
                go_wp2_with (first | (go_at_call 13; with_reducible refine (LE.out _ HAV6.out).mono ?_; rintro e w7 ⟨rfl, rfl⟩))
                go_ret
                exact ⟨rfl, HB6.out⟩
            | succ k =>
              have ek : ((k + 1 : Nat) : Int) - 1 = (k : Int) := by omega
              rw [ek]
              have hki : k < keys.length := by rw [HN1.out]; omega
              obtain ⟨v, hv, hv1, hv2, hv3⟩ := HT.out.2.2.1 k (by omega)
              obtain ⟨b, off, rfl, hc⟩ := HV1.out.at HQ.out.bel hki
              have GE := hid (get_any HQ.out.one (keys.getD k 0))
              rw [hv] at GE
              simp only [oV] at GE
              have HCV := hid (show ∀ w', Below w.heap.size w w' → w'.cell? ⟨b, off + k, none⟩ = some (.int .i64 (keys.getD k 0)) ∧ w'.cell? ⟨b, off + v, none⟩ = some (.int .i64 (keys.getD k 0)) from by
                intro w' hw'
                obtain ⟨b', off', e, h1⟩ := HV1.out.at hw' hki
                obtain ⟨b2', off2', e2, h2⟩ := HV1.out.at hw' (i := v) (by rw [HN1.out]; omega)
                cases e
                cases e2
                exact ⟨h1, by rw [h2, hv3]⟩)
              have f1 : (k : Int) < (i : Int) := by omega
              have f2 : (0 : Int) ≤ (k : Int) := by omega
              have f3 : (v : Int) < (i : Int) := by omega
              have f4 : (0 : Int) ≤ (v : Int) := by omega
              have f5 : decide ((v : Int) < (k : Int)) = false := by simp; omega
              have f5' : decide (v < k) = false := by simp; omega
              have f6 : decide ((i : Int) ≤ (v : Int)) = false := by simp; omega
              have f6' : decide (i ≤ v) = false := by simp; omega
              have ct1 : ((k : Int)).toNat = k := by omega
              have ct2 : ((v : Int)).toNat = v := by omega
              have wk : IntKind.i64.wrap ((k : Int) - 1) = (k : Int) - 1 := by simp [IntKind.wrap, IntKind.bits, IntKind.signed]; omega
              obtain ⟨x, hx⟩ : ∃ x, keys.getD k 0 = x := ⟨_, rfl⟩
              rw [hx] at GE HCV hc
              have xx : (x != x) = false := by simp
              have HKM := hid (show k ≤ i by omega)
              have HBQ := hid HQ.out.bel
              clear hki hv hv1 hv2 hv3 hx ek hm
              go_wp2_with (first | (go_at_call 14; with_reducible refine (GE.out).mono ?_; rintro e w6 ⟨rfl, hb6⟩; have HQ6 := hid (HQ.out.step hb6); have HB6 := hid (btr HBQ.out hb6); clear hb6; refine Hid.out ?_))
              have HB6d := hid (bdrew HB6.out)
              obtain ⟨y1, y2⟩ := HCV.out _ HB6d.out
              have HQ6d := hid (HQ6.out.step (below_drews (b := w6.drew) rfl rfl rfl rfl))
              clear hc
              refine hid ?_
              go_wp2_with fail
              rename_i K A
              have HKK := hid A
              clear A
              go_region_held3 (fun w' => w'.cell? ⟨b, off + k, none⟩ = some (.int .i64 x) ∧ w'.cell? ⟨b, off + v, none⟩ = some (.int .i64 x)) (go_keep) (fail)
              refine HKK.out _ _ ?_
              go_wp2_with fail
              go_roundw
              case rel => exact ⟨k, HKM.out, rfl, HQ6d⟩
              case measure => simp [intOf]
        · have hjl : j < more.length := by rw [HN2.out]; omega
          obtain ⟨b, off, rfl, hc⟩ := HV2.out.at HB2.out hjl
          obtain ⟨c, hcc, hcok, hcn, hclb⟩ := HG.out.two
          have HONE := hid HG.out.one
          have HTWO := hid hcc
          obtain ⟨x, hx⟩ : ∃ x, more.getD j 0 = x := ⟨_, rfl⟩
          have hb12 : t.n + n2 < 2000000 := by have h1 := HT.out.2.1; have h2 := HL.out; omega
          have gc : Gd c := ⟨hcok, by omega⟩
          have PT := hid (put_w (w0 := w) hcc gc x (-1))
          have gc2 : Gd (c.put x (-1)) := ⟨hcok.put x (-1), by have := T.n_put_le hcok.srt x (-1); omega⟩
          have DR := hid (show ∀ w', Av w' C (c.put x (-1)) → Calls Try.prog 12 #[.pointer (some ⟨C, 0, none⟩), .int .i64 x] w' fun e w2 => ∃ a b, e = .returned (.tuple #[.int .i64 a, .bool b]) ∧ Av w2 C ((c.put x (-1)).drop x) ∧ Ko C w' w2 from fun w' ha => drop_w (w0 := w) ha gc2 x)
          have HCV := hid (show ∀ w', Below w.heap.size w w' → w'.cell? ⟨b, off + j, none⟩ = some (.int .i64 x) from by
            intro w' hw'
            obtain ⟨b', off', e, h1⟩ := HV2.out.at hw' hjl
            cases e
            rw [h1, hx])
          have HNC := hid (show C ≠ w.heap.size from HNE.out)
          have hle := HG.out.one.lt
          have FP := hid (show ∀ w', Av w' w.heap.size t → Av w' C (c.put x (-1)) → Below w.heap.size w w' → C2 w C t (j + 1) w' from fun w' h1 h2 h3 => ⟨h1, ⟨_, h2, gc2.ok, by have := T.n_put_le hcok.srt x (-1); omega, hclb.put hcok x (-1) (by omega)⟩, h3⟩)
          have FD := hid (show ∀ w', Av w' w.heap.size t → Av w' C ((c.put x (-1)).drop x) → Below w.heap.size w w' → C2 w C t (j + 1) w' from fun w' h1 h2 h3 => ⟨h1, ⟨_, h2, gc2.ok.drop x, by have := T.n_put_le hcok.srt x (-1); have := T.n_drop_le gc2.ok x; omega, (hclb.put hcok x (-1) (by omega)).drop gc2.ok x⟩, h3⟩)
          have hNC : w.heap.size ≤ C := by rw [← HCE.out]; exact HB.out.size
          have HLE := hid hNC
          rw [hx] at hc
          have f1 : (j : Int) < (n2 : Int) := by omega
          have f2 : (0 : Int) ≤ (j : Int) := by omega
          have ct1 : ((j : Int)).toNat = j := by omega
          have wj : IntKind.i64.wrap ((j : Int) + 1) = ((j + 1 : Nat) : Int) := by simp [IntKind.wrap, IntKind.bits, IntKind.signed]; omega
          have HJM := hid (show j + 1 ≤ n2 ∧ n2 - (j + 1) < n2 - j by omega)
          obtain ⟨j1, hj1⟩ : ∃ j1, j + 1 = j1 := ⟨_, rfl⟩
          rw [hj1] at wj HJM FP FD
          obtain ⟨rm, hrm⟩ : ∃ r : Int, (j : Int).tmod 2 = r := ⟨_, rfl⟩
          have hrm2 : (j : Int).tmod 2 = (j : Int) % 2 := Int.tmod_eq_emod_of_nonneg (by omega)
          have hrw : IntKind.i64.wrap rm = rm := by rw [← hrm, hrm2]; simp [IntKind.wrap, IntKind.bits, IntKind.signed]; omega
          clear hrm2
          clear hj hjm hjl hcc hcok hcn hclb gc gc2 hx hj1 hb12 hle hNC
          go_wp2_with (first | (go_at_call 11; (with_reducible refine (PT.out).mono ?_; rintro e w5 ⟨a5, b5, rfl, hav5, hko5⟩; clear PT; have HAV5 := hid hav5; have HO5 := hid (HONE.out.ko HTWO.out hko5 (Ne.symm HNC.out)); have HB5 := hid (Ko.below HB2.out hko5 HLE.out HB2.out.size); clear hav5 hko5; refine Hid.out ?_)))
          have y1 := HCV.out _ HB5.out
          clear hc
          by_cases hr1 : rm = 1
          · subst hr1
            refine hid ?_
            go_wp2_with (first | (go_at_call 12; with_reducible refine (DR.out _ HAV5.out).mono ?_; rintro e w6 ⟨a6, b6, rfl, hav6, hko6⟩; clear DR; have HAV6 := hid hav6; have HO6 := hid (HO5.out.ko HAV5.out hko6 (Ne.symm HNC.out)); have HB6 := hid (Ko.below HB5.out hko6 HLE.out HB5.out.size); clear hav6 hko6))
            go_roundw
            case rel => exact ⟨j1, HJM.out.1, rfl, FD.out _ HO6.out HAV6.out HB6.out⟩
            case measure => simpa [intOf] using HJM.out.2
          · have hr2 : (rm == 1) = false := by simpa using hr1
            clear hr1
            refine hid ?_
            go_wp2_with fail
            go_roundw
            case rel => exact ⟨j1, HJM.out.1, rfl, FP.out _ HO5.out HAV5.out HB5.out⟩
            case measure => simpa [intOf] using HJM.out.2
    · have hil : i < keys.length := by rw [HN1.out]; omega
      obtain ⟨b, off, rfl, hc⟩ := HV1.out.at HB.out hil
      obtain ⟨x, hx⟩ : ∃ x, keys.getD i 0 = x := ⟨_, rfl⟩
      rw [hx] at hc
      have PT := hid (put_w (w0 := w) ha gt x i)
      have FP := hid (show ∀ w', Av w' w.heap.size (t.put x i) → Below w.heap.size w w' → C1 w keys (i + 1) w' from fun w' h1 h2 => ⟨⟨_, h1, hok.put x i, by have := T.n_put_le hok.srt x i; omega, by rw [← hx]; exact hki.put hok, hlb.put hok x i (by omega)⟩, h2⟩)
      have f1 : (i : Int) < (n1 : Int) := by omega
      have f2 : (0 : Int) ≤ (i : Int) := by omega
      have ct1 : ((i : Int)).toNat = i := by omega
      have wj : IntKind.i64.wrap ((i : Int) + 1) = ((i + 1 : Nat) : Int) := by simp [IntKind.wrap, IntKind.bits, IntKind.signed]; omega
      have HJM := hid (show i + 1 ≤ n1 ∧ n1 - (i + 1) < n1 - i by omega)
      obtain ⟨j1, hj1⟩ : ∃ j1, i + 1 = j1 := ⟨_, rfl⟩
      rw [hj1] at wj HJM FP
      clear hi him hil ha hok hn hki hlb gt hx hj1 HF
      go_wp2_with (first | (go_at_call 11; with_reducible refine (PT.out).mono ?_; rintro e w5 ⟨a5, b5, rfl, hav5, hko5⟩; clear PT; have HAV5 := hid hav5; have HB5 := hid (Ko.below HB.out hko5 (Nat.le_refl _) HB.out.size); clear hav5 hko5))
      go_roundw
      case rel => exact ⟨j1, HJM.out.1, rfl, FP.out _ HAV5.out HB5.out⟩
      case measure => simpa [intOf] using HJM.out.2
end Go.Proofs.Ytldpkmegofncfaa
