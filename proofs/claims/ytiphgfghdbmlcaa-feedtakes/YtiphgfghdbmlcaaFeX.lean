/-
  The document's level of a price.
-/
import Derived.Test.YtiphgfghdbmlcaaFeU
namespace Go.Proofs.Ytiphgfghdbmlcaa
open Go.RowKit Go.Deep
set_option linter.unusedVariables false
set_option linter.unusedSimpArgs false
set_option maxHeartbeats 4000000
set_option maxRecDepth 100000
def lv0 : Lv := ⟨0, 0, 0⟩
/-- the level of a price. -/
def atL : List Lv → Int → Lv
  | [], _ => lv0
  | y :: l, x => if y.pr = x then y else atL l x
theorem atL_at {l : List Lv} {x : Int} {i : Nat} (hi : i < l.length) (hx : l[i].pr = x) (hn : ∀ j (hj : j < l.length), j < i → l[j].pr ≠ x) : atL l x = l[i] := by
  induction l generalizing i with
  | nil => simp at hi
  | cons y l ih =>
    cases i with
    | zero => simp only [List.getElem_cons_zero] at hx ⊢; simp [atL, hx]
    | succ i =>
      have h0 := hn 0 (by simp) (by omega)
      simp only [List.getElem_cons_zero] at h0
      simp only [atL, if_neg h0, List.getElem_cons_succ] at hx ⊢
      exact ih (by simpa using hi) hx (fun j hj hji => hn (j + 1) (by simpa using hj) (by omega))
theorem atL_none {l : List Lv} {x : Int} (hn : ∀ j (hj : j < l.length), l[j].pr ≠ x) : atL l x = lv0 := by
  induction l with
  | nil => rfl
  | cons y l ih =>
    have h0 := hn 0 (by simp)
    simp only [List.getElem_cons_zero] at h0
    simp only [atL, if_neg h0]
    exact ih (fun j hj => hn (j + 1) (by simpa using hj))
theorem infoL : (Try.prog.info? 89).map (·.size) = some 3 := by kernel_rfl
theorem at_any (x : Int) (p : Option Addr) (c : Nat) (l : List Lv) (w : World) (h : Rl w p c l) :
    Calls Try.prog 54 #[.slice p l.length c, .int .i64 x] w fun e w' => e = .returned (.agg #[.int .i64 (atL l x).pr, .int .u64 (atL l x).qt, .int .i64 (atL l x).ct]) ∧ Below w.heap.size w w' := by
  have hmax := h.max
  have hcap := h.cap
  unfold maxLen at hmax
  obtain ⟨R, hR⟩ : ∃ R, w.heap.size = R := ⟨_, rfl⟩
  obtain ⟨W, hW⟩ : ∃ W, w.alloc (.cells #[.int .i64 0, .int .u64 0, .int .i64 0] 89) = W := ⟨_, rfl⟩
  have hb0 : Below w.heap.size w W := by rw [← hW]; exact ball _ _
  have HZ := hid (show W.heap[R]? = some (.cells #[.int .i64 0, .int .u64 0, .int .i64 0] 89 (0, 0)) from by rw [← hW, ← hR]; exact World.alloc_heap_new _ _)
  have HL := hid (h.on hb0)
  have HB := hid hb0
  have HW := hid hW
  have HR := hid hR
  obtain ⟨n, hn⟩ : ∃ n, l.length = n := ⟨_, rfl⟩
  have HN := hid hn
  rw [hn] at hcap ⊢
  clear h hn hb0 hW hR
  go_enter Try.func54, Try.ntmps54
  go_upto_region 1 with fail
  rw [HW.out, HR.out]
  go_wp2
  go_loop [5] (fun iv => ∃ i : Nat, i ≤ n ∧ iv = .int .i64 i ∧ Hid (∀ k (hk : k < l.length), k < i → l[k].pr ≠ x)) (fun iv => n - (intOf iv).toNat)
  case atStart => exact ⟨0, by omega, rfl, fun k _ hk => by omega⟩
  case round =>
    obtain ⟨i, hi, rfl, HP⟩ := hrel
    by_cases hlt : i < n
    · have hil : i < l.length := by have := HN.out; omega
      obtain ⟨g, o, rfl, sg, a0, a1, a2⟩ := HL.out.cells hil
      obtain ⟨z, hz⟩ : ∃ z, l[i] = z := ⟨_, rfl⟩
      rw [hz] at a0 a1 a2
      have HZ' := hid hz
      have i0 : (0 : Int) ≤ (i : Int) := by omega
      have i1 : (i : Int) < (n : Int) := by omega
      by_cases hx : z.pr = x
      · have q : (z.pr == x) = true := by simpa using hx
        have E := hid (show atL l x = z from by rw [atL_at hil (by rw [hz]; exact hx) HP.out]; exact hz)
        have AI := hid (show (Try.prog.info? 89).map (·.size) = some (#[.int .i64 z.pr, .int .u64 z.qt, .int .i64 z.ct] : Array Value).size from infoL)
        have AS := hid (show (#[.int .i64 0, .int .u64 0, .int .i64 0] : Array Value).size = (#[.int .i64 z.pr, .int .u64 z.qt, .int .i64 z.ct] : Array Value).size from rfl)
        have AA := hid (show (#[.int .i64 z.pr, .int .u64 z.qt, .int .i64 z.ct] : Array Value).all (·.oneCell') = true from by simp [Value.oneCell'])
        clear hx hz
        go_wp2_with (refine wpList_store_row (by rfl) 89 (.tmp 4) (.tmp 22) (by rfl) R #[.int .i64 z.pr, .int .u64 z.qt, .int .i64 z.ct] (by rfl) (by rfl) 89 _ HZ.out AI.out AS.out AA.out ?_)
        refine bodyPost_ret (results_cell_row (fn := Try.f54) Try.results54 _ _ R 89 #[.int .i64 z.pr, .int .u64 z.qt, .int .i64 z.ct] (0, 0) _ (by rfl) (setRow_heap _ _ _ _ 89 (0, 0) HZ.out) Try.underlying89 rfl infoL) rfl ⟨by rw [E.out], ?_⟩
        exact setRow_below HB.out (by have := HR.out; omega)
      · have q : (z.pr == x) = false := by simpa using hx
        have HX := hid hx
        clear hx hz
        go_wp2
        go_round
        case rel => exact ⟨i + 1, by omega, by go_num, fun k hk hki => by
          by_cases e : k = i
          · subst e; rw [HZ'.out]; exact HX.out
          · exact HP.out k hk (by omega)⟩
        case measure => simp [intOf]; omega
    · have E := hid (show atL l x = lv0 from atL_none (fun j hj => HP.out j hj (by have := HN.out; omega)))
      have AI := hid (show (Try.prog.info? 89).map (·.size) = some (#[.int .i64 0, .int .u64 0, .int .i64 0] : Array Value).size from infoL)
      have AA := hid (show (#[.int .i64 0, .int .u64 0, .int .i64 0] : Array Value).all (·.oneCell') = true from by simp [Value.oneCell'])
      go_wp2_with (refine wpList_store_row (by rfl) 89 (.tmp 4) (.tmp 23) (by rfl) R #[.int .i64 0, .int .u64 0, .int .i64 0] (by rfl) (by rfl) 89 _ HZ.out AI.out (by rfl) AA.out ?_)
      refine bodyPost_ret (results_cell_row (fn := Try.f54) Try.results54 _ _ R 89 #[.int .i64 0, .int .u64 0, .int .i64 0] (0, 0) _ (by rfl) (setRow_heap _ _ _ _ 89 (0, 0) HZ.out) Try.underlying89 rfl infoL) rfl ⟨by rw [E.out]; rfl, ?_⟩
      exact setRow_below HB.out (by have := HR.out; omega)
/-- two lists are merged: what is behind is better than what is ahead. -/
structure Mg (s : Int) (a b : List Lv) (i k : Nat) : Prop where
  x : ∀ j (hj : j < b.length), j < k → ∀ i' (hi : i' < a.length), i ≤ i' → bt s b[j].pr a[i'].pr = true
  y : ∀ j (hj : j < a.length), j < i → ∀ k' (hk : k' < b.length), k ≤ k' → bt s a[j].pr b[k'].pr = true
theorem Mg.zero (s : Int) (a b : List Lv) : Mg s a b 0 0 := ⟨fun j _ h => by omega, fun j _ h => by omega⟩
theorem Mg.left {s : Int} {a b : List Lv} {i k : Nat} (h : Mg s a b i k) (ha : Lok s a) (hb : Lok s b) (hi : i < a.length) (hc : ∀ hk : k < b.length, bt s a[i].pr b[k].pr = true) : Mg s a b (i + 1) k := by
  refine ⟨fun j hj hjk i' hi' hii => h.x j hj hjk i' hi' (by omega), fun j hj hji k' hk' hkk => ?_⟩
  by_cases e : j = i
  · subst e
    have := hc (by omega)
    by_cases e2 : k' = k
    · subst e2; exact this
    · exact bt_trans this (hb.lt hk' (by omega))
  · exact h.y j hj (by omega) k' hk' hkk
theorem Mg.right {s : Int} {a b : List Lv} {i k : Nat} (h : Mg s a b i k) (ha : Lok s a) (hb : Lok s b) (hk : k < b.length) (hc : ∀ hi : i < a.length, bt s b[k].pr a[i].pr = true) : Mg s a b i (k + 1) := by
  refine ⟨fun j hj hjk i' hi' hii => ?_, fun j hj hji k' hk' hkk => h.y j hj hji k' hk' (by omega)⟩
  by_cases e : j = k
  · subst e
    have := hc (by omega)
    by_cases e2 : i' = i
    · subst e2; exact this
    · exact bt_trans this (ha.lt hi' (by omega))
  · exact h.x j hj (by omega) i' hi' hii
theorem Mg.both {s : Int} {a b : List Lv} {i k : Nat} (h : Mg s a b i k) (ha : Lok s a) (hb : Lok s b) (hi : i < a.length) (hk : k < b.length) (hc : a[i].pr = b[k].pr) : Mg s a b (i + 1) (k + 1) := by
  refine ⟨fun j hj hjk i' hi' hii => ?_, fun j hj hji k' hk' hkk => ?_⟩
  · by_cases e : j = k
    · subst e; rw [← hc]; exact ha.lt hi' (by omega)
    · exact h.x j hj (by omega) i' hi' (by omega)
  · by_cases e : j = i
    · subst e; rw [hc]; exact hb.lt hk' (by omega)
    · exact h.y j hj (by omega) k' hk' (by omega)
theorem Lok.self {s : Int} {a : List Lv} (ha : Lok s a) {i : Nat} (hi : i < a.length) : atL a a[i].pr = a[i] :=
  atL_at hi rfl (fun j hj hji => bt_ne (ha.lt hi hji))
theorem Lok.nz {s : Int} {a : List Lv} (ha : Lok s a) {i : Nat} (hi : i < a.length) : a[i] ≠ lv0 := by
  intro e
  have := (ha i hi).1
  rw [e] at this
  simp [lvG, lv0] at this
/-- the price of the first list alone. -/
theorem Mg.noneR {s : Int} {a b : List Lv} {i k : Nat} (h : Mg s a b i k) (hb : Lok s b) (hi : i < a.length) (hc : ∀ hk : k < b.length, bt s a[i].pr b[k].pr = true) : atL b a[i].pr = lv0 :=
  atL_none (fun j hj => by
    by_cases e : j < k
    · exact bt_ne (h.x j hj e i hi (Nat.le_refl _))
    · have := hc (by omega)
      by_cases e2 : j = k
      · subst e2; exact (bt_ne this).symm
      · exact (bt_ne (bt_trans this (hb.lt hj (by omega)))).symm)
theorem Mg.noneL {s : Int} {a b : List Lv} {i k : Nat} (h : Mg s a b i k) (ha : Lok s a) (hk : k < b.length) (hc : ∀ hi : i < a.length, bt s b[k].pr a[i].pr = true) : atL a b[k].pr = lv0 :=
  atL_none (fun j hj => by
    by_cases e : j < i
    · exact bt_ne (h.y j hj e k hk (Nat.le_refl _))
    · have := hc (by omega)
      by_cases e2 : j = i
      · subst e2; exact (bt_ne this).symm
      · exact (bt_ne (bt_trans this (ha.lt hj (by omega)))).symm)
theorem chg_left {s : Int} {a b : List Lv} {i k : Nat} (hi : i < a.length) (hc : ∀ hk : k < b.length, bt s a[i].pr b[k].pr = true) : chg s (a.drop i) (b.drop k) = gone s a[i] :: chg s (a.drop (i + 1)) (b.drop k) := by
  rw [List.drop_eq_getElem_cons hi]
  by_cases hk : k < b.length
  · rw [List.drop_eq_getElem_cons hk]; exact chg_lt (hc hk)
  · rw [show b.drop k = [] from List.drop_eq_nil_of_le (by omega)]; exact chg_cn s _ _
theorem chg_right {s : Int} {a b : List Lv} {i k : Nat} (hk : k < b.length) (hc : ∀ hi : i < a.length, bt s b[k].pr a[i].pr = true) : chg s (a.drop i) (b.drop k) = tld s b[k] :: chg s (a.drop i) (b.drop (k + 1)) := by
  rw [List.drop_eq_getElem_cons hk]
  by_cases hi : i < a.length
  · rw [List.drop_eq_getElem_cons hi]; exact chg_gt (hc hi)
  · rw [show a.drop i = [] from List.drop_eq_nil_of_le (by omega)]; exact chg_nc s _ _
theorem chg_bothN {s : Int} {a b : List Lv} {i k : Nat} (hi : i < a.length) (hk : k < b.length) (hp : a[i].pr = b[k].pr) (hn : a[i] ≠ b[k]) : chg s (a.drop i) (b.drop k) = tld s b[k] :: chg s (a.drop (i + 1)) (b.drop (k + 1)) := by
  rw [List.drop_eq_getElem_cons hk, List.drop_eq_getElem_cons hi]; exact chg_ne hp hn
theorem chg_bothE {s : Int} {a b : List Lv} {i k : Nat} (hi : i < a.length) (hk : k < b.length) (hn : a[i] = b[k]) : chg s (a.drop i) (b.drop k) = chg s (a.drop (i + 1)) (b.drop (k + 1)) := by
  rw [List.drop_eq_getElem_cons hk, List.drop_eq_getElem_cons hi, hn]; exact chg_eq
end Go.Proofs.Ytiphgfghdbmlcaa
