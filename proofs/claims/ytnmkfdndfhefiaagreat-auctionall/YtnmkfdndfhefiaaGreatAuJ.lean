/-
  Quotes that a closure names are found, and taken out.
-/
import Derived.Test.YtnmkfdndfhefiaaGreatAuI
import Derived.Laws.IdiomCopy
namespace Go.Proofs.YtnmkfdndfhefiaaGreat
open Go.RowKit Go.Deep Go.Sort
set_option linter.unusedVariables false
set_option linter.unusedSimpArgs false
set_option maxHeartbeats 4000000
set_option maxRecDepth 100000
def spl (cur : Array Value) : Nat → List Value → Array Value
  | _, [] => cur
  | o, v :: r => spl (cur.setIfInBounds o v) (o + 1) r
theorem spl_size : ∀ (vs : List Value) (cur : Array Value) (o : Nat), (spl cur o vs).size = cur.size
  | [], _, _ => rfl
  | v :: r, cur, o => by show (spl (cur.setIfInBounds o v) (o + 1) r).size = _; rw [spl_size r]; simp
theorem spl_out : ∀ (vs : List Value) (cur : Array Value) (o j : Nat), (j < o ∨ o + vs.length ≤ j) → (spl cur o vs)[j]? = cur[j]?
  | [], _, _, _, _ => rfl
  | v :: r, cur, o, j, h => by
    show (spl (cur.setIfInBounds o v) (o + 1) r)[j]? = _
    simp only [List.length_cons] at h
    rw [spl_out r _ _ _ (by omega), Array.getElem?_setIfInBounds, if_neg (by omega)]
theorem spl_in : ∀ (vs : List Value) (cur : Array Value) (o j : Nat), j < vs.length → o + j < cur.size → (spl cur o vs)[o + j]? = vs[j]?
  | [], _, _, _, h, _ => by simp at h
  | v :: r, cur, o, 0, _, hs => by
    show (spl (cur.setIfInBounds o v) (o + 1) r)[o + 0]? = _
    rw [spl_out r _ _ _ (by omega), Nat.add_zero, Array.getElem?_setIfInBounds, if_pos rfl, if_pos (by omega)]
    rfl
  | v :: r, cur, o, j + 1, h, hs => by
    show (spl (cur.setIfInBounds o v) (o + 1) r)[o + (j + 1)]? = _
    have := spl_in r (cur.setIfInBounds o v) (o + 1) j (by simpa using h) (by simp; omega)
    rw [show o + (j + 1) = o + 1 + j by omega, this]
    rfl
theorem setCells_row {g : Nat} {t : TypeId} : ∀ (vs : List Value) (o : Nat) (w : World) (cur : Array Value), w.heap[g]? = some (.cells cur t (0, 0)) → (w.setCells g o vs).heap[g]? = some (.cells (spl cur o vs) t (0, 0))
  | [], _, _, _, h => h
  | v :: r, o, w, cur, h => by
    show ((w.setCell ⟨g, o, none⟩ v).setCells g (o + 1) r).heap[g]? = _
    rw [setCells_row r (o + 1) _ (cur.setIfInBounds o v) (heap_setCell_same w g o cur t v h)]
    rfl
theorem setCells_kp (G : Nat) : ∀ (vs : List Value) (o : Nat) (w : World), Kp (fun j => j = G) w (w.setCells G o vs)
  | [], _, w => Kp.refl _ _
  | v :: r, o, w => (Kp.set w G o v).trans (setCells_kp G r (o + 1) _) (fun _ _ h => h)
theorem own_ext {base : Nat} {w : World} {e : TypeId} {size g k c : Nat} {cur : Array Value} {xs : List Value} (hb : base ≤ g) (hr : w.heap[g]? = some (.cells cur e (0, 0))) (hk : k ≤ c) (hc : c ≤ maxLen) (hs : cur.size = c * size) (hl : xs.length = k * size) (hx : ∀ j, j < k * size → cur[j]? = xs[j]?) : w.ownsRow base e size (.slice (some ⟨g, 0, none⟩) k c) k xs := by
  refine ⟨hl, .inr ⟨g, c, cur, rfl, hb, hr, hk, hc, hs, ?_⟩⟩
  apply List.ext_getElem?
  intro j
  rw [List.getElem?_take, Array.getElem?_toList]
  by_cases hj : j < k * size
  · rw [if_pos hj, hx j hj]
  · rw [if_neg hj, List.getElem?_eq_none (by omega)]
theorem Qs.put {base : Nat} {w : World} {g c : Nat} {L : List Qt} (h : Qs base w (Option.some ⟨g, 0, none⟩) c L) {i : Nat} (hi : i < L.length) (x : Qt) : Qs base (w.setCells g (i * 5) (qrow x).toList) (Option.some ⟨g, 0, none⟩) c (L.set i x) := by
  obtain ⟨g', cur, e, hb, hr, hs, hlc, hcm, ht⟩ := h.some (by omega)
  injection e with e
  injection e with e
  subst e
  unfold Qs
  rw [List.length_set]
  have hx5 : (qrow x).toList.length = 5 := rfl
  refine own_ext hb (setCells_row _ _ _ _ hr) hlc hcm (by rw [spl_size]; exact hs) (by rw [qs_len, List.length_set]) (fun j hj => ?_)
  have e1 : j / 5 * 5 + j % 5 = j := by omega
  have hq : j / 5 < L.length := by omega
  have e2 := qs_get (l := L.set i x) (i := j / 5) (j := j % 5) (by rw [List.length_set]; exact hq) (by omega)
  rw [e1] at e2
  rw [e2]
  have e3 := qs_get (l := L) (i := j / 5) (j := j % 5) hq (by omega)
  rw [e1] at e3
  have e4 : cur[j]? = (qs L)[j]? := by
    have := congrArg (fun z => z[j]?) ht
    simpa only [List.getElem?_take, hj, if_true, Array.getElem?_toList] using this
  by_cases hji : j / 5 = i
  · have e5 : j = i * 5 + j % 5 := by omega
    have := spl_in (qrow x).toList cur (i * 5) (j % 5) (by omega) (by rw [hs]; omega)
    rw [← e5] at this
    rw [this]
    subst hji
    simp
  · rw [spl_out _ _ _ _ (by rw [hx5]; omega), e4, e3]
    simp [List.getElem_set, show ¬ i = j / 5 from fun e => hji e.symm]
theorem Qs.cut {base : Nat} {w : World} {g c : Nat} {L : List Qt} (h : Qs base w (Option.some ⟨g, 0, none⟩) c L) {k : Nat} (h0 : 0 < L.length) (hk : k ≤ L.length) (vs : List Value) : Qs base (w.setCells g (k * 5) vs) (Option.some ⟨g, 0, none⟩) c (L.take k) := by
  obtain ⟨g', cur, e, hb, hr, hs, hlc, hcm, ht⟩ := h.some h0
  injection e with e
  injection e with e
  subst e
  unfold Qs
  have hl : (L.take k).length = k := by rw [List.length_take]; omega
  rw [hl]
  refine own_ext hb (setCells_row _ _ _ _ hr) (by omega) hcm (by rw [spl_size]; exact hs) (by rw [qs_len, hl]) (fun j hj => ?_)
  rw [spl_out _ _ _ _ (.inl hj)]
  have e1 : j / 5 * 5 + j % 5 = j := by omega
  have hq : j / 5 < L.length := by omega
  have e2 := qs_get (l := L.take k) (i := j / 5) (j := j % 5) (by rw [hl]; omega) (by omega)
  rw [e1] at e2
  have e3 := qs_get (l := L) (i := j / 5) (j := j % 5) hq (by omega)
  rw [e1] at e3
  have e4 : cur[j]? = (qs L)[j]? := by
    have := congrArg (fun z => z[j]?) ht
    simpa only [List.getElem?_take, show j < L.length * 5 by omega, if_true, Array.getElem?_toList] using this
  rw [e4, e3, e2, List.getElem_take]
/-- a closure that names quotes. -/
def Prd (N : Nat) (caps : List Value) (P : Qt → Bool) (l : List Qt) (n : Nat) (w : World) : Prop := ∀ a ∈ l, ∀ U, Below n w U → Calls Tryz.prog N (List.toArray (.agg #[.int .i64 a.pr, .int .u64 a.vo, .int .u64 a.su, .int .i64 a.sd, .int .i64 a.ru] :: caps)) U fun e w' => e = .returned (.bool (P a)) ∧ Below U.heap.size U w'
/-- where the first one stands that is named, or -1. -/
def ixq (P : Qt → Bool) : List Qt → Int
  | [] => -1
  | x :: l => if P x then 0 else if ixq P l = -1 then -1 else ixq P l + 1
theorem ixq_none {P : Qt → Bool} : ∀ {l : List Qt}, (∀ j (h : j < l.length), P l[j] = false) → ixq P l = -1
  | [], _ => rfl
  | x :: l, h => by
    unfold ixq
    rw [if_neg (by have := h 0 (by simp); simp at this; simp [this]), if_pos (ixq_none (fun j hj => by have := h (j + 1) (by simpa using hj); simpa using this))]
theorem ixq_at {P : Qt → Bool} : ∀ {l : List Qt} {i : Nat} (hi : i < l.length), (∀ j (h : j < l.length), j < i → P l[j] = false) → P l[i] = true → ixq P l = i
  | x :: l, 0, hi, _, h => by unfold ixq; rw [if_pos (by simpa using h)]; rfl
  | x :: l, i + 1, hi, ha, h => by
    unfold ixq
    have e := ixq_at (P := P) (l := l) (i := i) (by simpa using hi) (fun j hj hji => by have := ha (j + 1) (by simpa using hj) (by omega); simpa using this) (by simpa using h)
    rw [if_neg (by have := ha 0 (by simp) (by omega); simp at this; simp [this]), e, if_neg (by omega)]
    omega
theorem indexQ_best1 (K F : Nat) (P : Qt → Bool) (base : Nat) (p : Option Addr) (c : Nat) (l : List Qt) (w : World) (h : Qs base w p c l) (hl : l.length ≤ 8193) (n0 : Nat) (hP : Prd 78 [.pointer (some ⟨K, 0, none⟩), .pointer (some ⟨F, 0, none⟩)] P l n0 w) (hn0 : n0 ≤ w.heap.size) :
    Calls Tryz.prog 88 #[.slice p l.length c, .func (.func 78) #[] #[.pointer (some ⟨K, 0, none⟩), .pointer (some ⟨F, 0, none⟩)]] w fun e w' => e = .returned (.int .i64 (ixq P l)) ∧ Below w.heap.size w w' := by
  have HQ := hid h
  have HP := hid hP
  obtain ⟨n, hn⟩ : ∃ n, l.length = n := ⟨_, rfl⟩
  have HN := hid hn
  rw [hn] at hl ⊢
  clear h hP hn
  go_enter Tryz.func88, Tryz.ntmps88
  go_wp2
  go_loopw [8] (fun iv wr => ∃ i : Nat, i ≤ n ∧ iv = .int .i64 i ∧ Hid (∀ j (hj : j < l.length), j < i → P l[j] = false) ∧ Hid (Below w.heap.size w wr)) (fun iv _ => n - (intOf iv).toNat)
  case atStart => exact ⟨0, Nat.zero_le _, rfl, hid (fun j hj h => by omega), hid (Below.refl _ _)⟩
  case round =>
    obtain ⟨i, hin, rfl, HJ, HB⟩ := hrel
    by_cases hlt : i < n
    · have hi : i < l.length := by rw [HN.out]; exact hlt
      obtain ⟨g, e, sg, b0, b1, b2, b3, b4⟩ := (HQ.out.on HB.out).cells hi
      subst e
      have C1 := hid (HP.out l[i] (List.getElem_mem hi) wr (HB.out.mono hn0))
      obtain ⟨y, hy⟩ : ∃ y, l[i] = y := ⟨_, rfl⟩
      rw [hy] at b0 b1 b2 b3 b4 C1
      have HY := hid hy
      have i0 : (0 : Int) ≤ (i : Int) := by omega
      have i1 : (i : Int) < (n : Int) := by omega
      clear hy
      cases hp : P y with
      | true =>
        rw [hp] at C1
        have HPY := hid hp
        clear hp
        go_wp2_with (go_at_call 78; with_reducible refine (C1.out).mono ?_; rintro e v1 ⟨rfl, hb⟩; have V1 := hid hb; clear hb)
        go_ret
        exact ⟨by rw [ixq_at hi HJ.out (by rw [HY.out]; exact HPY.out)]; rfl, btr HB.out V1.out⟩
      | false =>
        rw [hp] at C1
        have HPY := hid hp
        clear hp
        go_wp2_with (go_at_call 78; with_reducible refine (C1.out).mono ?_; rintro e v1 ⟨rfl, hb⟩; have V1 := hid hb; clear hb)
        go_roundw
        case rel =>
          refine ⟨i + 1, by omega, by go_num, hid (fun j hj hl => ?_), hid (btr HB.out V1.out)⟩
          by_cases hji : j = i
          · subst hji; rw [HY.out]; exact HPY.out
          · exact HJ.out j hj (by omega)
        case measure => simp [intOf]; omega
    · obtain rfl : i = n := by omega
      go_wp2
      go_ret
      exact ⟨by rw [ixq_none (fun j hj => HJ.out j hj (by have := HN.out; omega))]; rfl, HB.out⟩
theorem indexQ_pressure1 (K : Nat) (P : Qt → Bool) (base : Nat) (p : Option Addr) (c : Nat) (l : List Qt) (w : World) (h : Qs base w p c l) (hl : l.length ≤ 8193) (n0 : Nat) (hP : Prd 84 [.pointer (some ⟨K, 0, none⟩)] P l n0 w) (hn0 : n0 ≤ w.heap.size) :
    Calls Tryz.prog 88 #[.slice p l.length c, .func (.func 84) #[] #[.pointer (some ⟨K, 0, none⟩)]] w fun e w' => e = .returned (.int .i64 (ixq P l)) ∧ Below w.heap.size w w' := by
  have HQ := hid h
  have HP := hid hP
  obtain ⟨n, hn⟩ : ∃ n, l.length = n := ⟨_, rfl⟩
  have HN := hid hn
  rw [hn] at hl ⊢
  clear h hP hn
  go_enter Tryz.func88, Tryz.ntmps88
  go_wp2
  go_loopw [8] (fun iv wr => ∃ i : Nat, i ≤ n ∧ iv = .int .i64 i ∧ Hid (∀ j (hj : j < l.length), j < i → P l[j] = false) ∧ Hid (Below w.heap.size w wr)) (fun iv _ => n - (intOf iv).toNat)
  case atStart => exact ⟨0, Nat.zero_le _, rfl, hid (fun j hj h => by omega), hid (Below.refl _ _)⟩
  case round =>
    obtain ⟨i, hin, rfl, HJ, HB⟩ := hrel
    by_cases hlt : i < n
    · have hi : i < l.length := by rw [HN.out]; exact hlt
      obtain ⟨g, e, sg, b0, b1, b2, b3, b4⟩ := (HQ.out.on HB.out).cells hi
      subst e
      have C1 := hid (HP.out l[i] (List.getElem_mem hi) wr (HB.out.mono hn0))
      obtain ⟨y, hy⟩ : ∃ y, l[i] = y := ⟨_, rfl⟩
      rw [hy] at b0 b1 b2 b3 b4 C1
      have HY := hid hy
      have i0 : (0 : Int) ≤ (i : Int) := by omega
      have i1 : (i : Int) < (n : Int) := by omega
      clear hy
      cases hp : P y with
      | true =>
        rw [hp] at C1
        have HPY := hid hp
        clear hp
        go_wp2_with (go_at_call 84; with_reducible refine (C1.out).mono ?_; rintro e v1 ⟨rfl, hb⟩; have V1 := hid hb; clear hb)
        go_ret
        exact ⟨by rw [ixq_at hi HJ.out (by rw [HY.out]; exact HPY.out)]; rfl, btr HB.out V1.out⟩
      | false =>
        rw [hp] at C1
        have HPY := hid hp
        clear hp
        go_wp2_with (go_at_call 84; with_reducible refine (C1.out).mono ?_; rintro e v1 ⟨rfl, hb⟩; have V1 := hid hb; clear hb)
        go_roundw
        case rel =>
          refine ⟨i + 1, by omega, by go_num, hid (fun j hj hl => ?_), hid (btr HB.out V1.out)⟩
          by_cases hji : j = i
          · subst hji; rw [HY.out]; exact HPY.out
          · exact HJ.out j hj (by omega)
        case measure => simp [intOf]; omega
    · obtain rfl : i = n := by omega
      go_wp2
      go_ret
      exact ⟨by rw [ixq_none (fun j hj => HJ.out j hj (by have := HN.out; omega))]; rfl, HB.out⟩
end Go.Proofs.YtnmkfdndfhefiaaGreat
