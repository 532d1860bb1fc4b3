/-
  LvC
-/
import Derived.Test.YtlhbgaiiehljpaaGreatGa
namespace Go.Proofs.YtlhbgaiiehljpaaGreat.Ac
open Go.RowKit Go.Deep Go.Maps MonM Go.Proofs.YtlhbgaiiehljpaaGreat
set_option linter.unusedVariables false
set_option linter.unusedSimpArgs false
set_option maxHeartbeats 4000000
set_option maxRecDepth 100000
attribute [local go_sem ↓] Go.wp_at_zero Go.wp_at_succ
/-- a member. -/
structure Sv where
  m : Int
  fd : Int
  mg : Int
  ca : Bool
  ou : Bool
abbrev srow (s : Sv) : Array Value := #[.int .u32 s.m, .int .u64 s.fd, .int .u64 (hiW s.mg), .int .u64 (loW s.mg), .bool s.ca, .bool s.ou]
abbrev pb (b : Nat) : Value := .pointer (some ⟨b, 0, none⟩)
def pv (l : List (Nat × Sv)) : List Value := l.map fun x => pb x.1
/-- members that lie. -/
structure Me (w : World) (p : Option Addr) (c : Nat) (l : List (Nat × Sv)) : Prop where
  own : w.ownsRow 0 104 1 (.slice p l.length c) l.length (pv l)
  st : ∀ x ∈ l, w.heap[x.1]? = some (.cells (srow x.2) 106 (0, 0))
theorem own_cell {base : Nat} {w : World} {e : TypeId} {n c : Nat} {p : Option Addr} {xs : List Value} (h : w.ownsRow base e 1 (.slice p n c) n xs) {i : Nat} (hi : i < n) : ∃ g u, p = some ⟨g, 0, none⟩ ∧ xs[i]? = some u ∧ w.cell? ⟨g, i, none⟩ = some u := by
  obtain ⟨h1, ⟨e1, e2⟩ | ⟨g, c', cur, e', r1, r2, r3, r4, r5, r6⟩⟩ := h
  · omega
  · obtain ⟨e3, _, rfl⟩ := Value.slice.inj e'
    have hl : i < xs.length := by omega
    refine ⟨g, xs[i], e3, List.getElem?_eq_getElem hl, ?_⟩
    rw [row_cell r2]
    have := congrArg (fun z => z[i]?) r6
    simp only [List.getElem?_take, show i < n * 1 by omega, if_true, Array.getElem?_toList] at this
    rw [this, List.getElem?_eq_getElem hl]
theorem own_capc {base : Nat} {w : World} {e : TypeId} {n c : Nat} {p : Option Addr} {xs : List Value} (h : w.ownsRow base e 1 (.slice p n c) n xs) : n ≤ c ∧ c ≤ maxLen := by
  obtain ⟨h1, ⟨e1, e2⟩ | ⟨g, c', cur, e', r1, r2, r3, r4, r5, r6⟩⟩ := h
  · obtain ⟨_, rfl, rfl⟩ := Value.slice.inj e1
    exact ⟨Nat.le_refl _, Nat.zero_le _⟩
  · obtain ⟨e3, _, rfl⟩ := Value.slice.inj e'
    exact ⟨r3, r4⟩
theorem Me.on {w w' : World} {p : Option Addr} {c : Nat} {l : List (Nat × Sv)} (h : Me w p c l) (hb : Below w.heap.size w w') : Me w' p c l := ⟨own_on h.own hb, fun x hx => row_on (h.st x hx) hb⟩
theorem Me.at {w : World} {p : Option Addr} {c : Nat} {l : List (Nat × Sv)} (h : Me w p c l) {i : Nat} (hi : i < l.length) : ∃ g, p = some ⟨g, 0, none⟩ ∧ w.cell? ⟨g, i, none⟩ = some (pb l[i].1) ∧ w.heap[l[i].1]? = some (.cells (srow l[i].2) 106 (0, 0)) := by
  obtain ⟨g, u, e, hu, hc⟩ := own_cell h.own hi
  refine ⟨g, e, ?_, h.st _ (List.getElem_mem hi)⟩
  rw [hc, ← hu]
  simp [pv, hi]
/-- members rise. -/
def Up (l : List (Nat × Sv)) : Prop := l.Pairwise fun x y => x.2.m < y.2.m
theorem Up.lt {l : List (Nat × Sv)} (h : Up l) {i j : Nat} (hi : i < l.length) (hj : j < l.length) (hij : i < j) : l[i].2.m < l[j].2.m := List.pairwise_iff_getElem.1 h i j hi hj hij
def c3 (a b : Int) : Int := if a < b then -1 else if b < a then 1 else 0
theorem nanU_any (x : Int) (w : World) : Calls Tryz.prog 78 #[.int .u32 x] w fun e w' => e = .returned (.bool false) ∧ w' = w := by
  go_enter Tryz.func78, Tryz.ntmps78
  go_wp2
  go_ret
  exact ⟨rfl, rfl⟩
theorem cmpU_any (x y : Int) (w : World) : Calls Tryz.prog 54 #[.int .u32 x, .int .u32 y] w fun e w' => e = .returned (.int .i64 (c3 x y)) ∧ w' = w := by
  have CN := hid (fun (z : Int) (U : World) => nanU_any z U)
  unfold c3
  by_cases h1 : x < y
  · rw [if_pos h1]
    go_enter Tryz.func54, Tryz.ntmps54
    go_wp2_with (go_at_call 78; with_reducible refine (CN.out _ _).mono ?_; rintro e w1 ⟨rfl, h1⟩; subst h1)
    go_ret
    exact ⟨rfl, rfl⟩
  · rw [if_neg h1]
    have d1 : decide (x < y) = false := decide_eq_false h1
    by_cases h2 : y < x
    · rw [if_pos h2]
      go_enter Tryz.func54, Tryz.ntmps54
      go_wp2_with (go_at_call 78; with_reducible refine (CN.out _ _).mono ?_; rintro e w1 ⟨rfl, h1⟩; subst h1)
      go_ret
      exact ⟨rfl, rfl⟩
    · rw [if_neg h2]
      have d2 : decide (y < x) = false := decide_eq_false h2
      go_enter Tryz.func54, Tryz.ntmps54
      go_wp2_with (go_at_call 78; with_reducible refine (CN.out _ _).mono ?_; rintro e w1 ⟨rfl, h1⟩; subst h1)
      go_ret
      exact ⟨rfl, rfl⟩
theorem place1_any (b : Nat) (s : Sv) (t : Int) (w : World) (h : w.heap[b]? = some (.cells (srow s) 106 (0, 0))) :
    Calls Tryz.prog 63 #[pb b, .int .u32 t] w fun e w' => e = .returned (.int .i64 (c3 s.m t)) ∧ Below w.heap.size w w' := by
  have C := hid (fun (U : World) => cmpU_any s.m t U)
  have k0 := row_cell h 0
  simp only [List.getElem?_toArray, List.getElem?_cons_zero] at k0
  go_enter Tryz.func63, Tryz.ntmps63
  go_wp2_with (go_at_call 54; with_reducible refine (C.out _).mono ?_; rintro e w1 ⟨rfl, h1⟩; subst h1)
  go_ret
  exact ⟨rfl, Below.refl _ _⟩
/-- a member's place. -/
structure Plc (l : List (Nat × Sv)) (x : Int) (i : Nat) (b : Bool) : Prop where
  le : i ≤ l.length
  lo : ∀ k (hk : k < l.length), k < i → l[k].2.m < x
  hi : ∀ k (hk : k < l.length), i ≤ k → x ≤ l[k].2.m
  b : b = true ↔ ∃ h : i < l.length, l[i].2.m = x
theorem bsearch_any (x : Int) (p : Option Addr) (c : Nat) (l : List (Nat × Sv)) (w : World) (h : Me w p c l) (ho : Up l) (hsz : l.length ≤ 1000000000) :
    Calls Tryz.prog 62 #[.slice p l.length c, .int .u32 x, .func (.func 63) #[] #[]] w fun e w' => ∃ (i : Nat) (b : Bool), e = .returned (.tuple #[.int .i64 i, .bool b]) ∧ Plc l x i b ∧ Below w.heap.size w w' := by
  have hcap := (own_capc h.own).1
  have HL := hid h
  have HO := hid ho
  have HC := hid (fun (U : World) (hU : Below w.heap.size w U) (k : Nat) (hk : k < l.length) => on_b (place1_any l[k].1 l[k].2 x U (row_on (h.st _ (List.getElem_mem hk)) hU)) hU)
  obtain ⟨n, hn⟩ : ∃ n, l.length = n := ⟨_, rfl⟩
  have HN := hid hn
  rw [hn] at hcap hsz ⊢
  clear h ho hn
  go_enter Tryz.func62, Tryz.ntmps62
  go_wp2
  go_loopw [9, 10] (fun iv jv wr => ∃ i j : Nat, i ≤ j ∧ j ≤ n ∧ iv = .int .i64 i ∧ jv = .int .i64 j ∧ Hid (∀ k (hk : k < l.length), k < i → l[k].2.m < x) ∧ Hid (∀ k (hk : k < l.length), j ≤ k → x ≤ l[k].2.m) ∧ Hid (Below w.heap.size w wr)) (fun iv jv _ => (intOf jv).toNat - (intOf iv).toNat)
  case atStart => exact ⟨0, n, by omega, by omega, rfl, rfl, fun k _ hk => by omega, fun k hk h => by have := HN.out; omega, Below.refl _ _⟩
  case round =>
    obtain ⟨i, j, hij, hj, rfl, rfl, H1, H2, HB⟩ := hrel
    by_cases hlt : i < j
    · obtain ⟨m, hm⟩ : ∃ m, (i + j) / 2 = m := ⟨_, rfl⟩
      have hm1 : i ≤ m := by omega
      have hm2 : m < j := by omega
      have hml : m < l.length := by have := HN.out; omega
      obtain ⟨g, rfl, a0, _⟩ := (HL.out.on HB.out).at hml
      have C := hid (HC.out wr HB.out m hml)
      obtain ⟨y, hy⟩ : ∃ y, l[m].1 = y := ⟨_, rfl⟩
      obtain ⟨v, hv⟩ : ∃ v, c3 l[m].2.m x = v := ⟨_, rfl⟩
      rw [hy] at a0 C
      rw [hv] at C
      have b1 : IntKind.u64.wrap ((i : Int) + (j : Int)) = (i : Int) + (j : Int) := by rw [IntKind.wrap_u64]; omega
      have b2 : ((i : Int) + (j : Int)) / 2 = (m : Int) := by omega
      have b3 : IntKind.i64.wrap (m : Int) = (m : Int) := by rw [IntKind.wrap_i64]; omega
      have m0 : (0 : Int) ≤ (m : Int) := by omega
      have m1 : (m : Int) < (n : Int) := by omega
      have HV := hid hv
      have HM := hid hm
      clear hm hy hv
      by_cases v0 : v < 0
      · go_wp2_with (go_at_call 63; with_reducible refine (C.out).mono ?_; rintro e w1 ⟨rfl, HB1⟩)
        go_roundw
        case rel => exact ⟨m + 1, j, by omega, by omega, by go_num, rfl, fun k hk hkm => by
          have hbm : l[m].2.m < x := by have := HV.out; unfold c3 at this; split at this <;> first | assumption | (split at this <;> omega)
          by_cases e : k = m
          · subst e; exact hbm
          · have := HO.out.lt hk hml (by omega); omega, H2.out, HB1.out⟩
        case measure => simp [intOf]; omega
      · have v0' : decide (v < 0) = false := by simpa using v0
        go_wp2_with (go_at_call 63; with_reducible refine (C.out).mono ?_; rintro e w1 ⟨rfl, HB1⟩)
        go_roundw
        case rel => exact ⟨i, m, hm1, by omega, rfl, rfl, H1.out, (fun k hk hkm => by
          have hbm : x ≤ l[m].2.m := by have := HV.out; unfold c3 at this; split at this <;> omega
          by_cases e : k = m
          · subst e; exact hbm
          · have := HO.out.lt hml hk (show m < k by omega); omega), HB1.out⟩
        case measure => simp [intOf]; omega
    · obtain rfl : i = j := by omega
      by_cases hin : i < n
      · have hil : i < l.length := by have := HN.out; omega
        obtain ⟨g, rfl, a0, _⟩ := (HL.out.on HB.out).at hil
        have C := hid (HC.out wr HB.out i hil)
        obtain ⟨y, hy⟩ : ∃ y, l[i].1 = y := ⟨_, rfl⟩
        obtain ⟨v, hv⟩ : ∃ v, c3 l[i].2.m x = v := ⟨_, rfl⟩
        rw [hy] at a0 C
        rw [hv] at C
        have i0 : (0 : Int) ≤ (i : Int) := by omega
        have i1 : (i : Int) < (n : Int) := by omega
        have HV := hid hv
        clear hy hv
        go_wp2_with (go_at_call 63; with_reducible refine (C.out).mono ?_; rintro e w1 ⟨rfl, HB1⟩)
        go_ret2
        refine ⟨i, (v == 0), rfl, ⟨by omega, H1.out, H2.out, ?_⟩, HB1.out⟩
        have hv := HV.out
        unfold c3 at hv
        constructor
        · intro hz
          have hz' : v = 0 := by simpa using hz
          refine ⟨hil, ?_⟩
          split at hv
          · omega
          · split at hv <;> omega
        · rintro ⟨_, e⟩
          rw [e, if_neg (by omega), if_neg (by omega)] at hv
          simp [← hv]
      · have hin' : decide (i < n) = false := decide_eq_false hin
        go_wp2
        go_ret2
        refine ⟨i, false, rfl, ⟨by have := HN.out; omega, H1.out, H2.out, ?_⟩, HB.out⟩
        constructor
        · intro h; cases h
        · rintro ⟨h, _⟩
          have := HN.out
          omega
end Go.Proofs.YtlhbgaiiehljpaaGreat.Ac
namespace Go.Proofs.YtlhbgaiiehljpaaGreat.Ac
open Go.RowKit Go.Deep Go.Maps MonM Go.Proofs.YtlhbgaiiehljpaaGreat
set_option linter.unusedVariables false
set_option linter.unusedSimpArgs false
set_option maxHeartbeats 4000000
set_option maxRecDepth 100000
attribute [local go_sem ↓] Go.wp_at_zero Go.wp_at_succ
def mpOf (w : World) (M : Option Nat) (n : Nat) (f : Int × Int → Option Pv) : Prop := match M with | none => ∀ k, f k = none | some b => Mp kvP w b n f
/-- a house that lies. -/
structure Ho (w : World) (H : Nat) (o : Int) (p : Option Addr) (c : Nat) (l : List (Nat × Sv)) (M : Option Nat) (n : Nat) (f : Int × Int → Option Pv) : Prop where
  row : w.heap[H]? = some (.cells #[.int .u64 o, .slice p l.length c, .map M] 100 (0, 0))
  me : Me w p c l
  nd : (l.map (·.1)).Nodup
  up : Up l
  sz : l.length ≤ 1000000
  mp : mpOf w M n f
/-- its blocks. -/
def Ob (H : Nat) (p : Option Addr) (bs : List Nat) (M : Option Nat) (b : Nat) : Prop := b = H ∨ (∃ a, p = some a ∧ a.block = b) ∨ b ∈ bs ∨ M = some b
def bks (l : List (Nat × Sv)) : List Nat := l.map (·.1)
theorem Mp.obj {K V : Type} {s : Kv K V} {w : World} {M n : Nat} {f : K → Option V} (h : Mp s w M n f) : ∃ es cl, w.heap[M]? = some (.map es cl) := by
  obtain ⟨D, ⟨es, cl, h1, _⟩, _⟩ := h
  exact ⟨es, cl, h1⟩
theorem mpOf.kept {w w' : World} {F : Nat → Prop} {M : Option Nat} {n : Nat} {f : Int × Int → Option Pv} (h : mpOf w M n f) (hk : Kp F w w') (hF : ∀ b, M = some b → ¬ F b) : mpOf w' M n f := by
  cases M with
  | none => exact h
  | some b => exact Mp.kept h hk (hF b rfl)
theorem Ho.lt {w : World} {H : Nat} {o : Int} {p : Option Addr} {c : Nat} {l : List (Nat × Sv)} {M : Option Nat} {n : Nat} {f : Int × Int → Option Pv} (h : Ho w H o p c l M n f) {b : Nat} (hb : Ob H p (bks l) M b) : b < w.heap.size := by
  rcases hb with rfl | ⟨a, rfl, rfl⟩ | hb | rfl
  · exact row_lt h.row
  · obtain ⟨cur, e⟩ := own_ty h.me.own rfl
    exact row_lt e
  · obtain ⟨x, hx, rfl⟩ := List.mem_map.1 hb
    exact row_lt (h.me.st x hx)
  · exact Mp.lt h.mp
theorem Ho.kept {w w' : World} {F : Nat → Prop} {H : Nat} {o : Int} {p : Option Addr} {c : Nat} {l : List (Nat × Sv)} {M : Option Nat} {n : Nat} {f : Int × Int → Option Pv} (h : Ho w H o p c l M n f) (hk : Kp F w w') (hF : ∀ b, Ob H p (bks l) M b → ¬ F b) : Ho w' H o p c l M n f where
  row := hk.row h.row (hF _ (.inl rfl))
  me := ⟨own_same h.me.own (fun g hg => hk.obj g (by obtain ⟨cur, e⟩ := own_ty h.me.own hg; exact row_lt e) (hF g (.inr (.inl (by
    cases p with
    | none => cases hg
    | some a => exact ⟨a, rfl, by injection hg⟩))))), fun x hx => hk.row (h.me.st x hx) (hF _ (.inr (.inr (.inl (List.mem_map.2 ⟨x, hx, rfl⟩)))))⟩
  nd := h.nd
  up := h.up
  sz := h.sz
  mp := h.mp.kept hk (fun b e => hF b (.inr (.inr (.inr e))))
theorem Ho.on {w w' : World} {H : Nat} {o : Int} {p : Option Addr} {c : Nat} {l : List (Nat × Sv)} {M : Option Nat} {n : Nat} {f : Int × Int → Option Pv} (h : Ho w H o p c l M n f) (hb : Below w.heap.size w w') : Ho w' H o p c l M n f := h.kept (Kp.of (fun _ => False) hb) (fun _ _ h => h)
/-- a row of another type is none of its blocks. -/
theorem Ho.ne {w : World} {H : Nat} {o : Int} {p : Option Addr} {c : Nat} {l : List (Nat × Sv)} {M : Option Nat} {n : Nat} {f : Int × Int → Option Pv} (h : Ho w H o p c l M n f) {r : Nat} {cs : Array Value} {t : TypeId} (hr : w.heap[r]? = some (.cells cs t (0, 0))) (h1 : t ≠ 100) (h2 : t ≠ 104) (h3 : t ≠ 106) : ¬ Ob H p (bks l) M r := by
  rintro (rfl | ⟨a, rfl, rfl⟩ | hb | rfl)
  · have e := h.row
    rw [hr] at e
    injection e with e
    injection e with _ e
    exact h1 e
  · obtain ⟨cur, e⟩ := own_ty h.me.own rfl
    rw [hr] at e
    injection e with e
    injection e with _ e
    exact h2 e
  · obtain ⟨x, hx, rfl⟩ := List.mem_map.1 hb
    have e := h.me.st x hx
    rw [hr] at e
    injection e with e
    injection e with _ e
    exact h3 e
  · obtain ⟨es, cl, e⟩ := Mp.obj h.mp
    rw [hr] at e
    cases e
theorem place_any (x : Int) {H : Nat} {o : Int} {p : Option Addr} {c : Nat} {l : List (Nat × Sv)} {M : Option Nat} {n : Nat} {f : Int × Int → Option Pv} (w : World) (h : Ho w H o p c l M n f) :
    Calls Tryz.prog 31 #[pb H, .int .u32 x] w fun e w' => ∃ (i : Nat) (b : Bool), e = .returned (.tuple #[.int .i64 i, .bool b]) ∧ Plc l x i b ∧ Below w.heap.size w w' := by
  have C := hid (bsearch_any x p c l w h.me h.up (Nat.le_trans h.sz (by decide)))
  have k1 := row_cell h.row 1
  simp only [List.getElem?_toArray, List.getElem?_cons_succ, List.getElem?_cons_zero] at k1
  obtain ⟨k, hk⟩ : ∃ k, l.length = k := ⟨_, rfl⟩
  rw [hk] at C k1
  clear h hk
  go_enter Tryz.func31, Tryz.ntmps31
  go_wp2_with (go_at_call 62; with_reducible refine C.out.mono ?_; rintro e w1 ⟨i, b, rfl, h1, h2⟩; have H1 := hid h1; have H2 := hid h2; clear h1 h2)
  go_ret2
  exact ⟨i, b, rfl, H1.out, H2.out⟩
theorem up_one {l : List (Nat × Sv)} (h : Up l) {x y : Nat × Sv} (hx : x ∈ l) (hy : y ∈ l) (e : x.2.m = y.2.m) : x = y := by
  obtain ⟨i, hi, rfl⟩ := List.getElem_of_mem hx
  obtain ⟨j, hj, rfl⟩ := List.getElem_of_mem hy
  rcases Nat.lt_trichotomy i j with c | c | c
  · have := h.lt hi hj c; omega
  · subst c; rfl
  · have := h.lt hj hi c; omega
theorem find_any (x : Int) {H : Nat} {o : Int} {p : Option Addr} {c : Nat} {l : List (Nat × Sv)} {M : Option Nat} {n : Nat} {f : Int × Int → Option Pv} (w : World) (h : Ho w H o p c l M n f) :
    Calls Tryz.prog 66 #[pb H, .int .u32 x] w fun e w' => ((∃ y ∈ l, y.2.m = x ∧ e = .returned (pb y.1)) ∨ ((∀ y ∈ l, y.2.m ≠ x) ∧ e = .returned (.pointer none))) ∧ Below w.heap.size w w' := by
  have C := hid (place_any x w h)
  have HH := hid h
  obtain ⟨k, hk⟩ : ∃ k, l.length = k := ⟨_, rfl⟩
  have HK := hid hk
  have KR := hid (fun (U : World) (hU : Below w.heap.size w U) => row_cell (row_on h.row hU) 1)
  simp only [hk] at KR
  clear h hk
  go_enter Tryz.func66, Tryz.ntmps66
  go_upto_region 2 with (go_at_call 31; with_reducible refine C.out.mono ?_; rintro e w1 ⟨i, b, rfl, h1, h2⟩; have H1 := hid h1; have H2 := hid h2; clear h1 h2)
  cases b with
  | false =>
    go_wp2
    go_ret
    refine ⟨.inr ⟨fun y hy e => ?_, rfl⟩, H2.out⟩
    obtain ⟨j, hj, rfl⟩ := List.getElem_of_mem hy
    have hb := H1.out.b
    by_cases c : i ≤ j
    · by_cases c2 : i = j
      · subst c2
        have := hb.2 ⟨hj, e⟩
        cases this
      · have hi : i < l.length := by omega
        have := H1.out.hi i hi (Nat.le_refl _)
        have := HH.out.up.lt hi hj (by omega)
        omega
    · have := H1.out.lo j hj (by omega)
      omega
  | true =>
    obtain ⟨hi, e⟩ := H1.out.b.1 rfl
    obtain ⟨g, e2, a0, -⟩ := (HH.out.on H2.out).me.at hi
    have k1 := KR.out w1 H2.out
    simp only [List.getElem?_toArray, List.getElem?_cons_succ, List.getElem?_cons_zero] at k1
    subst e2
    have i1 : i < k := by rw [← HK.out]; exact hi
    have hkc : k ≤ c := by rw [← HK.out]; exact (own_capc HH.out.me.own).1
    obtain ⟨y, hy⟩ : ∃ y, l[i] = y := ⟨_, rfl⟩
    have HY := hid (show y ∈ l from by rw [← hy]; exact List.getElem_mem hi)
    rw [hy] at a0 e
    have HE := hid e
    clear hy e hi
    go_wp2
    go_ret
    exact ⟨.inl ⟨y, HY.out, HE.out, rfl⟩, H2.out⟩
theorem new_any (x : Int) (w : World) :
    Calls Tryz.prog 14 #[.int .u64 x] w fun e w' => e = .returned (pb w.heap.size) ∧ Ho w' w.heap.size x none 0 [] none 0 (fun _ => none) ∧ Below w.heap.size w w' := by
  obtain ⟨W, hW⟩ : ∃ W, w.alloc (.cells #[.int .u64 x, .slice none 0 0, .map none] 100) = W := ⟨_, rfl⟩
  have BW := hid (show Below w.heap.size w W from by rw [← hW]; exact ball _ _)
  have RW := hid (show W.heap[w.heap.size]? = some (.cells #[.int .u64 x, .slice none 0 0, .map none] 100 (0, 0)) from by rw [← hW]; exact World.alloc_heap_new _ _)
  have HW := hid hW
  clear hW
  go_enter Tryz.func14, Tryz.ntmps14
  go_wp2
  rw [HW.out]
  go_ret
  exact ⟨rfl, ⟨RW.out, ⟨⟨by simp [pv], .inl ⟨rfl, rfl⟩⟩, fun x hx => by cases hx⟩, List.nodup_nil, List.Pairwise.nil, by simp, fun _ => rfl⟩, BW.out⟩
end Go.Proofs.YtlhbgaiiehljpaaGreat.Ac
