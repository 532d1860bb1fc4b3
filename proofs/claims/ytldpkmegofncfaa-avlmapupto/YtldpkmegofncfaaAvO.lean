/-
  Ranks and neighbours, plain; Rank, Min, Max, Above, Below.
-/
import Derived.Test.YtldpkmegofncfaaAvK
namespace Go.Proofs.Ytldpkmegofncfaa
open Go.RowKit Go.Deep
set_option linter.unusedVariables false
set_option linter.unusedSimpArgs false
namespace T
/-- the keys, rising. -/
def ks (t : T) : List Int := t.toL.map Prod.fst
theorem ks_nd (k v : Int) (l r : T) : (T.nd k v l r).ks = l.ks ++ k :: r.ks := by simp [ks, toL]
theorem ks_len (t : T) : t.ks.length = t.n := by simp [ks, toL_len]
def ris (t : T) : Prop := t.ks.Pairwise (· < ·)
theorem so.ris {t : T} (h : t.so) : t.ris := by
  unfold T.ris ks
  rw [List.pairwise_map]
  exact h
theorem ris_nd {k v : Int} {l r : T} (h : (T.nd k v l r).ris) : l.ris ∧ r.ris ∧ (∀ a ∈ l.ks, a < k) ∧ (∀ a ∈ r.ks, k < a) := by
  unfold ris at h
  rw [ks_nd, List.pairwise_append] at h
  obtain ⟨h1, h2, h3⟩ := h
  rw [List.pairwise_cons] at h2
  exact ⟨h1, h2.2, fun a ha => h3 a ha k (by simp), fun a ha => h2.1 a ha⟩
def lo (key : Int) (t : T) : List Int := t.ks.filter (· < key)
def hi (key : Int) (t : T) : List Int := t.ks.filter (key < ·)
def rk (key : Int) : T → Nat
  | .nil => 0
  | .nd k v l r => if k < key then l.n + 1 + r.rk key else l.rk key
def abv (key : Int) : T → Option Int → Option Int
  | .nil, o => o
  | .nd k v l r, o => if key < k then l.abv key (some k) else r.abv key o
def blw (key : Int) : T → Option Int → Option Int
  | .nil, o => o
  | .nd k v l r, o => if k < key then r.blw key (some k) else l.blw key o
theorem filter_all {l : List Int} {p : Int → Bool} (h : ∀ a ∈ l, p a = true) : l.filter p = l := List.filter_eq_self.2 h
theorem filter_no {l : List Int} {p : Int → Bool} (h : ∀ a ∈ l, p a = false) : l.filter p = [] := by
  rw [List.filter_eq_nil_iff]; intro a ha; simp [h a ha]
theorem lo_lt {key k v : Int} {l r : T} (h : (T.nd k v l r).ris) (hk : k < key) : (T.nd k v l r).lo key = l.ks ++ k :: r.lo key := by
  obtain ⟨h1, h2, h3, h4⟩ := ris_nd h
  unfold lo
  rw [ks_nd, List.filter_append, List.filter_cons_of_pos (by simpa using hk), filter_all]
  intro a ha
  have := h3 a ha
  simp; omega
theorem lo_ge {key k v : Int} {l r : T} (h : (T.nd k v l r).ris) (hk : ¬ k < key) : (T.nd k v l r).lo key = l.lo key := by
  obtain ⟨h1, h2, h3, h4⟩ := ris_nd h
  unfold lo
  rw [ks_nd, List.filter_append, List.filter_cons_of_neg (by simpa using hk), filter_no (l := r.ks), List.append_nil]
  intro a ha
  have := h4 a ha
  simp; omega
theorem hi_gt {key k v : Int} {l r : T} (h : (T.nd k v l r).ris) (hk : key < k) : (T.nd k v l r).hi key = l.hi key ++ k :: r.ks := by
  obtain ⟨h1, h2, h3, h4⟩ := ris_nd h
  unfold hi
  rw [ks_nd, List.filter_append, List.filter_cons_of_pos (by simpa using hk), filter_all (l := r.ks)]
  intro a ha
  have := h4 a ha
  simp; omega
theorem hi_le {key k v : Int} {l r : T} (h : (T.nd k v l r).ris) (hk : ¬ key < k) : (T.nd k v l r).hi key = r.hi key := by
  obtain ⟨h1, h2, h3, h4⟩ := ris_nd h
  unfold hi
  rw [ks_nd, List.filter_append, List.filter_cons_of_neg (by simpa using hk), filter_no (l := l.ks), List.nil_append]
  intro a ha
  have := h3 a ha
  simp; omega
theorem rk_lo {key : Int} : ∀ {t : T}, t.ris → t.rk key = (t.lo key).length
  | .nil => fun _ => by simp [rk, lo, ks, toL]
  | .nd k v l r => by
    intro h
    obtain ⟨h1, h2, h3, h4⟩ := ris_nd h
    unfold rk
    split
    · rename_i hk
      rw [lo_lt h hk, rk_lo h2, List.length_append, List.length_cons, ks_len]; omega
    · rename_i hk
      rw [lo_ge h hk, rk_lo h1]
theorem blw_lo {key : Int} : ∀ {t : T} {o : Option Int}, t.ris → t.blw key o = (t.lo key).getLast?.or o
  | .nil, o => fun _ => by simp [blw, lo, ks, toL]
  | .nd k v l r, o => by
    intro h
    obtain ⟨h1, h2, h3, h4⟩ := ris_nd h
    unfold blw
    split
    · rename_i hk
      rw [lo_lt h hk, blw_lo h2]
      cases hc : r.lo key with
      | nil => simp
      | cons a x =>
        obtain ⟨y, hy⟩ : ∃ y, (a :: x).getLast? = some y := ⟨_, List.getLast?_eq_some_getLast (by simp)⟩
        rw [List.getLast?_append, List.getLast?_cons_cons, hy]; simp
    · rename_i hk
      rw [lo_ge h hk, blw_lo h1]
theorem abv_hi {key : Int} : ∀ {t : T} {o : Option Int}, t.ris → t.abv key o = (t.hi key).head?.or o
  | .nil, o => fun _ => by simp [abv, hi, ks, toL]
  | .nd k v l r, o => by
    intro h
    obtain ⟨h1, h2, h3, h4⟩ := ris_nd h
    unfold abv
    split
    · rename_i hk
      rw [hi_gt h hk, abv_hi h1]
      cases hc : l.hi key with
      | nil => simp
      | cons a x => simp
    · rename_i hk
      rw [hi_le h hk, abv_hi h2]
theorem nth_ks : ∀ (t : T) (i : Int), t.nth i = if 0 ≤ i then t.ks[i.toNat]? else none
  | .nil, i => by simp [nth, ks, toL]
  | .nd k v l r, i => by
    have hl := nth_ks l i
    have hr := nth_ks r (i - (l.n + 1))
    have hn := ks_len l
    unfold nth
    rw [ks_nd]
    by_cases h1 : i = l.n
    · rw [if_pos h1, if_pos (by omega), List.getElem?_append_right (by omega)]
      rw [show i.toNat - l.ks.length = 0 by omega]; rfl
    · rw [if_neg h1]
      by_cases h2 : i < l.n
      · rw [if_pos h2, hl]
        split
        · rw [List.getElem?_append_left (by omega)]
        · rfl
      · rw [if_neg h2, hr, if_pos (by omega), if_pos (by omega), List.getElem?_append_right (by omega)]
        rw [show i.toNat - l.ks.length = (i - (l.n + 1)).toNat + 1 by omega, List.getElem?_cons_succ]
theorem outL_key : ∀ t : T, t.outL.key? = t.ks.head?
  | .nil => by simp [outL, key?, ks, toL]
  | .nd k v .nil r => by simp [outL, key?, ks, toL]
  | .nd k v (.nd a b c d) r => by
    rw [outL, outL_key (.nd a b c d), ks_nd k v, ks_nd a b]
    cases c.ks <;> simp
theorem outR_key : ∀ t : T, t.outR.key? = t.ks.getLast?
  | .nil => by simp [outR, key?, ks, toL]
  | .nd k v l .nil => by simp [outR, key?, ks, toL]
  | .nd k v l (.nd a b c d) => by
    rw [outR, outR_key (.nd a b c d), ks_nd k v]
    rw [List.getLast?_append]
    rw [List.getLast?_cons]
    have : (T.nd a b c d).ks ≠ [] := by rw [ks_nd]; simp
    cases h : (T.nd a b c d).ks with
    | nil => exact absurd h this
    | cons x y => simp [List.getLast?_cons]
/-- of a rising list. -/
theorem lo_at {t : T} (h : t.ris) {n : Nat} (hn : n < t.ks.length) : t.lo t.ks[n] = t.ks.take n := by
  unfold ris at h
  unfold lo
  generalize t.ks = l at *
  induction l generalizing n with
  | nil => simp at hn
  | cons a l ih =>
    rw [List.pairwise_cons] at h
    cases n with
    | zero =>
      simp only [List.getElem_cons_zero, List.take_zero]
      refine filter_no ?_
      intro b hb
      rcases List.mem_cons.1 hb with rfl | hb
      · simp
      · have := h.1 b hb; simp; omega
    | succ n =>
      simp only [List.length_cons] at hn
      rw [List.getElem_cons_succ, List.take_succ_cons, List.filter_cons_of_pos (by simpa using h.1 _ (List.getElem_mem (by omega)))]
      rw [ih h.2 (by omega)]
theorem hi_at {t : T} (h : t.ris) {n : Nat} (hn : n < t.ks.length) : t.hi t.ks[n] = t.ks.drop (n + 1) := by
  unfold ris at h
  unfold hi
  generalize t.ks = l at *
  induction l generalizing n with
  | nil => simp at hn
  | cons a l ih =>
    rw [List.pairwise_cons] at h
    cases n with
    | zero =>
      simp only [List.getElem_cons_zero, List.drop_succ_cons, List.drop_zero]
      rw [List.filter_cons_of_neg (by simp)]
      refine filter_all ?_
      intro b hb
      simpa using h.1 b hb
    | succ n =>
      simp only [List.length_cons] at hn
      rw [List.getElem_cons_succ, List.drop_succ_cons, List.filter_cons_of_neg (by have := h.1 _ (List.getElem_mem (show n < l.length by omega)); simp; omega)]
      exact ih h.2 (by omega)
theorem ks_lt {t : T} (h : t.ris) {i j : Nat} (hij : i < j) (hj : j < t.ks.length) : t.ks[i] < t.ks[j] := (List.pairwise_iff_getElem.1 h) i j (by omega) hj hij
end T
set_option maxHeartbeats 2000000 in
theorem min_any {w : World} {B : Nat} {t : T} (h : Av w B t) :
    Calls Try.prog 16 #[.pointer (some ⟨B, 0, none⟩)] w fun e w' => e = .returned (oV t.ks.head?) ∧ w' = w := by
  obtain ⟨p, z, hz, h2, c0⟩ := h.top
  have OU := hid (show Calls Try.prog 46 #[.pointer z, .int .i64 0] w fun e w' => ∃ q, e = .returned (.pointer (pa q)) ∧ Tr w t.outL q ∧ w' = w from by rw [← hz]; exact out0 h2)
  have HK := hid (show ∀ q z, pa q = z → Tr w t.outL q → ∃ k b, oV t.ks.head? = .tuple #[.int .i64 k, .bool b] ∧ Calls Try.prog 45 #[.pointer z] w fun e w' => e = .returned (.tuple #[.int .i64 k, .bool b]) ∧ w' = w from by
    intro q z hz hq
    have := key_q hz hq
    rw [T.outL_key] at this
    obtain ⟨k, b, e⟩ := oV_eq t.ks.head?
    rw [e] at this
    exact ⟨k, b, e, this⟩)
  clear h h2 hz
  go_enter Try.func16, Try.ntmps16
  go_wp2_with (first | (go_at_call 46; with_reducible refine (OU.out).mono ?_; rintro e w9 ⟨q, rfl, hq, rfl⟩; obtain ⟨zq, hzq⟩ : ∃ z, pa q = z := ⟨_, rfl⟩; rw [hzq]; obtain ⟨k, b, he, hc⟩ := HK.out q zq hzq hq; have HC := hid hc; have HE := hid he; clear hq hc he hzq) | (go_at_call 45; with_reducible refine (HC.out).mono ?_; rintro e w8 ⟨rfl, rfl⟩))
  go_ret2
  exact ⟨by rw [HE.out]; rfl, rfl⟩
set_option maxHeartbeats 2000000 in
theorem max_any {w : World} {B : Nat} {t : T} (h : Av w B t) :
    Calls Try.prog 20 #[.pointer (some ⟨B, 0, none⟩)] w fun e w' => e = .returned (oV t.ks.getLast?) ∧ w' = w := by
  obtain ⟨p, z, hz, h2, c0⟩ := h.top
  have OU := hid (show Calls Try.prog 46 #[.pointer z, .int .i64 1] w fun e w' => ∃ q, e = .returned (.pointer (pa q)) ∧ Tr w t.outR q ∧ w' = w from by rw [← hz]; exact out1 h2)
  have HK := hid (show ∀ q z, pa q = z → Tr w t.outR q → ∃ k b, oV t.ks.getLast? = .tuple #[.int .i64 k, .bool b] ∧ Calls Try.prog 45 #[.pointer z] w fun e w' => e = .returned (.tuple #[.int .i64 k, .bool b]) ∧ w' = w from by
    intro q z hz hq
    have := key_q hz hq
    rw [T.outR_key] at this
    obtain ⟨k, b, e⟩ := oV_eq t.ks.getLast?
    rw [e] at this
    exact ⟨k, b, e, this⟩)
  clear h h2 hz
  go_enter Try.func20, Try.ntmps20
  go_wp2_with (first | (go_at_call 46; with_reducible refine (OU.out).mono ?_; rintro e w9 ⟨q, rfl, hq, rfl⟩; obtain ⟨zq, hzq⟩ : ∃ z, pa q = z := ⟨_, rfl⟩; rw [hzq]; obtain ⟨k, b, he, hc⟩ := HK.out q zq hzq hq; have HC := hid hc; have HE := hid he; clear hq hc he hzq) | (go_at_call 45; with_reducible refine (HC.out).mono ?_; rintro e w8 ⟨rfl, rfl⟩))
  go_ret2
  exact ⟨by rw [HE.out]; rfl, rfl⟩
set_option maxHeartbeats 2000000 in
set_option maxRecDepth 100000 in
theorem rank_any {w : World} {B : Nat} {t : T} (h : Av w B t) (hn : t.n < 2971215072) (key : Int) :
    Calls Try.prog 15 #[.pointer (some ⟨B, 0, none⟩), .int .i64 key] w fun e w' => e = .returned (.int .i64 (t.rk key)) ∧ w' = w := by
  obtain ⟨p, z, hz, h2, c0⟩ := h.top
  have HT := hid h2
  have HZ := hid hz
  have HN := hid hn
  clear h h2 hz hn
  go_enter Try.func15, Try.ntmps15
  go_wp2_with fail
  go_loopw [5, 6] (fun av nv wr => ∃ s q, ∃ a : Nat, nv = .pointer (pa q) ∧ av = .int .i64 a ∧ wr = w ∧ Hid (Tr w s q) ∧ Hid (a + s.rk key = t.rk key) ∧ Hid (a + s.n ≤ t.n)) (fun _ nv wr => hOf wr nv)
  case atStart => exact ⟨t, p, 0, by rw [HZ.out], rfl, rfl, HT, hid (by omega), hid (by omega)⟩
  case round =>
    obtain ⟨s, q, a, rfl, rfl, rfl, HS, HF, HM⟩ := hrel
    cases s with
    | nil =>
      obtain rfl := HS.out.ofNil
      simp only [pa]
      have HA := hid (show t.rk key = a from by have := HF.out; simp only [T.rk] at this; omega)
      go_wp2_with fail
      go_ret
      exact ⟨by rw [HA.out]; rfl, rfl⟩
    | nd k v l r =>
      obtain ⟨b, rfl⟩ := HS.out.ofNd
      have HH := hid (hOf_tr HS.out)
      obtain ⟨pl, pr, -, hl, hr, c0', -, c2, c3⟩ := HS.out.cells
      obtain ⟨zl, hzl⟩ : ∃ z, pa pl = z := ⟨_, rfl⟩
      obtain ⟨zr, hzr⟩ : ∃ z, pa pr = z := ⟨_, rfl⟩
      rw [hzl] at c2
      rw [hzr] at c3
      have HZL := hid hzl
      have HZR := hid hzr
      have HLX := hid hl
      have HRX := hid hr
      have CO := hid (show Calls Try.prog 43 #[.pointer zl] wr fun e w' => e = .returned (.int .i64 l.n) ∧ w' = wr from by rw [← hzl]; exact count_any hl)
      have hnn := HM.out
      have hff := HF.out
      have htt := HN.out
      simp only [T.n] at hnn
      simp only [T.rk] at hff
      simp only [pa] at HH ⊢
      by_cases e1 : k < key
      · rw [if_pos e1] at hff
        have i3 : IntKind.i64.wrap ((l.n : Int) + 1) = (l.n : Int) + 1 := by simp [IntKind.wrap, IntKind.bits, IntKind.signed]; omega
        have i4 : IntKind.i64.wrap ((a : Int) + ((l.n : Int) + 1)) = ((a + (l.n + 1) : Nat) : Int) := by simp [IntKind.wrap, IntKind.bits, IntKind.signed]; omega
        have HR := hid (show (a + (l.n + 1)) + r.rk key = t.rk key ∧ (a + (l.n + 1)) + r.n ≤ t.n by omega)
        obtain ⟨a2, ha2⟩ : ∃ a2, a + (l.n + 1) = a2 := ⟨_, rfl⟩
        rw [ha2] at i4 HR
        obtain ⟨ln, hln⟩ : ∃ n, l.n = n := ⟨_, rfl⟩
        rw [hln] at CO i3 i4
        clear hnn hff htt hl hr hzl hzr ha2 hln
        go_wp2_with (first | (go_at_call 43; with_reducible refine (CO.out).mono ?_; rintro e w5 ⟨rfl, rfl⟩))
        go_roundw
        case rel => exact ⟨r, pr, a2, (congrArg Value.pointer HZR.out).symm, rfl, by first | trivial | rfl, HRX, hid HR.out.1, hid HR.out.2⟩
        case measure =>
          have h1 := hOf_tr HRX.out
          rw [HZR.out] at h1
          rw [h1, HH.out]
          simp only [T.h]; omega
      · rw [if_neg e1] at hff
        have i1 : decide (k < key) = false := by simpa using e1
        have HR := hid (show a + l.rk key = t.rk key ∧ a + l.n ≤ t.n by omega)
        clear hnn hff htt hl hr hzl hzr e1
        go_wp2_with fail
        go_roundw
        case rel => exact ⟨l, pl, a, (congrArg Value.pointer HZL.out).symm, rfl, by first | trivial | rfl, HLX, hid HR.out.1, hid HR.out.2⟩
        case measure =>
          have h1 := hOf_tr HLX.out
          rw [HZL.out] at h1
          rw [h1, HH.out]
          simp only [T.h]; omega
set_option maxHeartbeats 2000000 in
set_option maxRecDepth 100000 in
theorem above_any {w : World} {B : Nat} {t : T} (h : Av w B t) (key : Int) :
    Calls Try.prog 18 #[.pointer (some ⟨B, 0, none⟩), .int .i64 key] w fun e w' => e = .returned (oV (t.abv key none)) ∧ Below w.heap.size w w' := by
  obtain ⟨p, z, hz, h2, c0⟩ := h.top
  have HT := hid h2
  have HZ := hid hz
  clear h h2 hz
  have w1 : IntKind.i64.wrap 1 = 1 := by decide
  have w0 : IntKind.i64.wrap 0 = 0 := by decide
  go_enter Try.func18, Try.ntmps18
  go_wp2_with fail
  go_loopw [6, 7] (fun lv nv wr => ∃ s q u x, nv = .pointer (pa q) ∧ lv = .pointer (pa x) ∧ Hid (Tr wr s q) ∧ Hid (Tr wr u x) ∧ Hid (t.abv key none = s.abv key u.key?) ∧ Hid (Below w.heap.size w wr)) (fun _ nv wr => hOf wr nv)
  case atStart => exact ⟨t, p, .nil, none, by rw [HZ.out], rfl, HT, rfl, rfl, Below.refl _ _⟩
  case round =>
    obtain ⟨s, q, u, x, rfl, rfl, HS, HU, HF, HB⟩ := hrel
    obtain ⟨zx, hzx⟩ : ∃ z, pa x = z := ⟨_, rfl⟩
    have HZX := hid hzx
    rw [hzx]
    cases s with
    | nil =>
      obtain rfl := HS.out.ofNil
      simp only [pa]
      have VL := key_q hzx HU.out
      obtain ⟨k, b, he⟩ := oV_eq u.key?
      rw [he] at VL
      have VL := hid VL
      have HE := hid (show oV (t.abv key none) = .tuple #[.int .i64 k, .bool b] from by rw [HF.out, ← he]; rfl)
      clear hzx he
      go_wp2_with (first | (go_at_call 45; with_reducible refine (VL.out).mono ?_; rintro e w5 ⟨rfl, rfl⟩))
      go_ret2
      exact ⟨by rw [HE.out]; rfl, HB.out⟩
    | nd k v l r =>
      obtain ⟨b, rfl⟩ := HS.out.ofNd
      have HH := hid (hOf_tr HS.out)
      obtain ⟨pl, pr, -, hl, hr, c0', -, c2, c3⟩ := HS.out.cells
      obtain ⟨zl, hzl⟩ : ∃ z, pa pl = z := ⟨_, rfl⟩
      obtain ⟨zr, hzr⟩ : ∃ z, pa pr = z := ⟨_, rfl⟩
      rw [hzl] at c2
      rw [hzr] at c3
      have HZL := hid hzl
      have HZR := hid hzr
      have HLX := hid hl
      have HRX := hid hr
      have HXD := hid (hl.on (below_drews (b := wr.drew) rfl rfl rfl rfl))
      have HSD := hid (HS.out.on (below_drews (b := wr.drew) rfl rfl rfl rfl))
      have HBX := hid (bdrew HB.out)
      have d2d : wr.drew.cell? ⟨b, 2, none⟩ = some (.pointer zl) := c2
      have d3d : wr.drew.cell? ⟨b, 3, none⟩ = some (.pointer zr) := c3
      simp only [pa] at HH ⊢
      clear hl hr hzl hzr hzx
      by_cases e1 : key < k
      · have HA := hid (show t.abv key none = l.abv key (some k) from by rw [HF.out, T.abv, if_pos e1])
        go_wp2_with fail
        go_region_held3 (fun w' => w'.cell? ⟨b, 2, none⟩ = some (.pointer zl) ∧ w'.cell? ⟨b, 3, none⟩ = some (.pointer zr)) (go_keep) (fail)
        go_wp2_with fail
        go_roundw
        case rel => exact ⟨l, pl, .nd k v l r, some b, (congrArg Value.pointer HZL.out).symm, rfl, HXD, HSD, HA, HBX⟩
        case measure =>
          have h1 := hOf_tr HXD.out
          rw [HZL.out] at h1
          rw [h1, HH.out]
          simp only [T.h]; omega
      · have HA := hid (show t.abv key none = r.abv key u.key? from by rw [HF.out, T.abv, if_neg e1])
        have i1 : decide (key < k) = false := by simpa using e1
        clear e1
        go_wp2_with fail
        go_roundw
        case rel => exact ⟨r, pr, u, x, (congrArg Value.pointer HZR.out).symm, (congrArg Value.pointer HZX.out).symm, HRX, HU, HA, HB⟩
        case measure =>
          have h1 := hOf_tr HRX.out
          rw [HZR.out] at h1
          rw [h1, HH.out]
          simp only [T.h]; omega
set_option maxHeartbeats 2000000 in
set_option maxRecDepth 100000 in
theorem below_any {w : World} {B : Nat} {t : T} (h : Av w B t) (key : Int) :
    Calls Try.prog 19 #[.pointer (some ⟨B, 0, none⟩), .int .i64 key] w fun e w' => e = .returned (oV (t.blw key none)) ∧ Below w.heap.size w w' := by
  obtain ⟨p, z, hz, h2, c0⟩ := h.top
  have HT := hid h2
  have HZ := hid hz
  clear h h2 hz
  have w1 : IntKind.i64.wrap 1 = 1 := by decide
  have w0 : IntKind.i64.wrap 0 = 0 := by decide
  go_enter Try.func19, Try.ntmps19
  go_wp2_with fail
  go_loopw [6, 7] (fun lv nv wr => ∃ s q u x, nv = .pointer (pa q) ∧ lv = .pointer (pa x) ∧ Hid (Tr wr s q) ∧ Hid (Tr wr u x) ∧ Hid (t.blw key none = s.blw key u.key?) ∧ Hid (Below w.heap.size w wr)) (fun _ nv wr => hOf wr nv)
  case atStart => exact ⟨t, p, .nil, none, by rw [HZ.out], rfl, HT, rfl, rfl, Below.refl _ _⟩
  case round =>
    obtain ⟨s, q, u, x, rfl, rfl, HS, HU, HF, HB⟩ := hrel
    obtain ⟨zx, hzx⟩ : ∃ z, pa x = z := ⟨_, rfl⟩
    have HZX := hid hzx
    rw [hzx]
    cases s with
    | nil =>
      obtain rfl := HS.out.ofNil
      simp only [pa]
      have VL := key_q hzx HU.out
      obtain ⟨k, b, he⟩ := oV_eq u.key?
      rw [he] at VL
      have VL := hid VL
      have HE := hid (show oV (t.blw key none) = .tuple #[.int .i64 k, .bool b] from by rw [HF.out, ← he]; rfl)
      clear hzx he
      go_wp2_with (first | (go_at_call 45; with_reducible refine (VL.out).mono ?_; rintro e w5 ⟨rfl, rfl⟩))
      go_ret2
      exact ⟨by rw [HE.out]; rfl, HB.out⟩
    | nd k v l r =>
      obtain ⟨b, rfl⟩ := HS.out.ofNd
      have HH := hid (hOf_tr HS.out)
      obtain ⟨pl, pr, -, hl, hr, c0', -, c2, c3⟩ := HS.out.cells
      obtain ⟨zl, hzl⟩ : ∃ z, pa pl = z := ⟨_, rfl⟩
      obtain ⟨zr, hzr⟩ : ∃ z, pa pr = z := ⟨_, rfl⟩
      rw [hzl] at c2
      rw [hzr] at c3
      have HZL := hid hzl
      have HZR := hid hzr
      have HLX := hid hl
      have HRX := hid hr
      have HXD := hid (hr.on (below_drews (b := wr.drew) rfl rfl rfl rfl))
      have HSD := hid (HS.out.on (below_drews (b := wr.drew) rfl rfl rfl rfl))
      have HBX := hid (bdrew HB.out)
      have d2d : wr.drew.cell? ⟨b, 2, none⟩ = some (.pointer zl) := c2
      have d3d : wr.drew.cell? ⟨b, 3, none⟩ = some (.pointer zr) := c3
      simp only [pa] at HH ⊢
      clear hl hr hzl hzr hzx
      by_cases e1 : k < key
      · have HA := hid (show t.blw key none = r.blw key (some k) from by rw [HF.out, T.blw, if_pos e1])
        go_wp2_with fail
        go_region_held3 (fun w' => w'.cell? ⟨b, 2, none⟩ = some (.pointer zl) ∧ w'.cell? ⟨b, 3, none⟩ = some (.pointer zr)) (go_keep) (fail)
        go_wp2_with fail
        go_roundw
        case rel => exact ⟨r, pr, .nd k v l r, some b, (congrArg Value.pointer HZR.out).symm, rfl, HXD, HSD, HA, HBX⟩
        case measure =>
          have h1 := hOf_tr HXD.out
          rw [HZR.out] at h1
          rw [h1, HH.out]
          simp only [T.h]; omega
      · have HA := hid (show t.blw key none = l.blw key u.key? from by rw [HF.out, T.blw, if_neg e1])
        have i1 : decide (k < key) = false := by simpa using e1
        clear e1
        go_wp2_with fail
        go_roundw
        case rel => exact ⟨l, pl, u, x, (congrArg Value.pointer HZL.out).symm, (congrArg Value.pointer HZX.out).symm, HLX, HU, HA, HB⟩
        case measure =>
          have h1 := hOf_tr HLX.out
          rw [HZL.out] at h1
          rw [h1, HH.out]
          simp only [T.h]; omega
end Go.Proofs.Ytldpkmegofncfaa
