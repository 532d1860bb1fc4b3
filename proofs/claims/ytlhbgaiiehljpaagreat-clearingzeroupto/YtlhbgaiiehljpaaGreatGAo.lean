/-
  LvC
-/
import Derived.Test.YtlhbgaiiehljpaaGreatLvB
namespace Go.Proofs.YtlhbgaiiehljpaaGreat.Ac
open Go.RowKit Go.Deep Go.Maps MonM Go.Proofs.YtlhbgaiiehljpaaGreat
set_option linter.unusedVariables false
set_option linter.unusedSimpArgs false
set_option maxHeartbeats 4000000
set_option maxRecDepth 100000
attribute [local go_sem ↓] Go.wp_at_zero Go.wp_at_succ
/-- a member. -/
structure Sv where
 m : Int
 fd : Int
 mg : Int
 ca : Bool
 ou : Bool
abbrev srow (s : Sv) : Array Value := #[.int .u32 s.m, .int .u64 s.fd, .int .u64 (hiW s.mg), .int .u64 (loW s.mg), .bool s.ca, .bool s.ou]
abbrev pb (b : Nat) : Value := .pointer (some ⟨b, 0, none⟩)
def pv (l : List (Nat × Sv)) : List Value := l.map fun x => pb x.1
/-- members that lie. -/
structure Me (w : World) (p : Option Addr) (c : Nat) (l : List (Nat × Sv)) : Prop where
 own : w.ownsRow 0 104 1 (.slice p l.length c) l.length (pv l)
 st : ∀ x ∈ l, w.heap[x.1]? = some (.cells (srow x.2) 106 (0, 0))
theorem own_cell {base : Nat} {w : World} {e : TypeId} {n c : Nat} {p : Option Addr} {xs : List Value} (h : w.ownsRow base e 1 (.slice p n c) n xs) {i : Nat} (hi : i < n) : ∃ g u, p = some ⟨g, 0, none⟩ ∧ xs[i]? = some u ∧ w.cell? ⟨g, i, none⟩ = some u := by
 obtain ⟨h1, ⟨e1, e2⟩ | ⟨g, c', cur, e', r1, r2, r3, r4, r5, r6⟩⟩ := h
 ·omega
 ·obtain ⟨e3, _, rfl⟩ := Value.slice.inj e'
  have hl : i < xs.length := by omega
  refine ⟨g, xs[i], e3, List.getElem?_eq_getElem hl, ?_⟩
  rw [row_cell r2]
  have := congrArg (fun z => z[i]?) r6
  simp only [List.getElem?_take, show i < n * 1 by omega, if_true, Array.getElem?_toList] at this
  rw [this, List.getElem?_eq_getElem hl]
theorem own_capc {base : Nat} {w : World} {e : TypeId} {n c : Nat} {p : Option Addr} {xs : List Value} (h : w.ownsRow base e 1 (.slice p n c) n xs) : n ≤ c ∧ c ≤ maxLen := by
 obtain ⟨h1, ⟨e1, e2⟩ | ⟨g, c', cur, e', r1, r2, r3, r4, r5, r6⟩⟩ := h
 ·obtain ⟨_, rfl, rfl⟩ := Value.slice.inj e1
  exact ⟨Nat.le_refl _, Nat.zero_le _⟩
 ·obtain ⟨e3, _, rfl⟩ := Value.slice.inj e'
  exact ⟨r3, r4⟩
theorem Me.on {w w' : World} {p : Option Addr} {c : Nat} {l : List (Nat × Sv)} (h : Me w p c l) (hb : Below w.heap.size w w') : Me w' p c l := ⟨own_on h.own hb, fun x hx => row_on (h.st x hx) hb⟩
theorem Me.at {w : World} {p : Option Addr} {c : Nat} {l : List (Nat × Sv)} (h : Me w p c l) {i : Nat} (hi : i < l.length) : ∃ g, p = some ⟨g, 0, none⟩ ∧ w.cell? ⟨g, i, none⟩ = some (pb l[i].1) ∧ w.heap[l[i].1]? = some (.cells (srow l[i].2) 106 (0, 0)) := by
 obtain ⟨g, u, e, hu, hc⟩ := own_cell h.own hi
 refine ⟨g, e, ?_, h.st _ (List.getElem_mem hi)⟩
 rw [hc, ← hu]
 simp [pv, hi]
/-- members rise. -/
def Up (l : List (Nat × Sv)) : Prop := l.Pairwise fun x y => x.2.m < y.2.m
theorem Up.lt {l : List (Nat × Sv)} (h : Up l) {i j : Nat} (hi : i < l.length) (hj : j < l.length) (hij : i < j) : l[i].2.m < l[j].2.m := List.pairwise_iff_getElem.1 h i j hi hj hij
def c3 (a b : Int) : Int := if a < b then -1 else if b < a then 1 else 0
theorem nanU_any (x : Int) (w : World) : Calls Tryz.prog 78 #[.int .u32 x] w fun e w' => e = .returned (.bool false) ∧ w' = w := by
 go_enter Tryz.func78, Tryz.ntmps78
 go_wp2
 go_ret
 exact ⟨rfl, rfl⟩
theorem cmpU_any (x y : Int) (w : World) : Calls Tryz.prog 54 #[.int .u32 x, .int .u32 y] w fun e w' => e = .returned (.int .i64 (c3 x y)) ∧ w' = w := by
 have CN := hid (fun (z : Int) (U : World) => nanU_any z U)
 unfold c3
 by_cases h1 : x < y
 ·rw [if_pos h1]
  go_enter Tryz.func54, Tryz.ntmps54
  go_wp2_with (go_at_call 78; with_reducible refine (CN.out _ _).mono ?_; rintro e w1 ⟨rfl, h1⟩; subst h1)
  go_ret
  exact ⟨rfl, rfl⟩
 ·rw [if_neg h1]
  have d1 : decide (x < y) = false := decide_eq_false h1
  by_cases h2 : y < x
  ·rw [if_pos h2]
   go_enter Tryz.func54, Tryz.ntmps54
   go_wp2_with (go_at_call 78; with_reducible refine (CN.out _ _).mono ?_; rintro e w1 ⟨rfl, h1⟩; subst h1)
   go_ret
   exact ⟨rfl, rfl⟩
  ·rw [if_neg h2]
   have d2 : decide (y < x) = false := decide_eq_false h2
   go_enter Tryz.func54, Tryz.ntmps54
   go_wp2_with (go_at_call 78; with_reducible refine (CN.out _ _).mono ?_; rintro e w1 ⟨rfl, h1⟩; subst h1)
   go_ret
   exact ⟨rfl, rfl⟩
theorem place1_any (b : Nat) (s : Sv) (t : Int) (w : World) (h : w.heap[b]? = some (.cells (srow s) 106 (0, 0))) :
  Calls Tryz.prog 63 #[pb b, .int .u32 t] w fun e w' => e = .returned (.int .i64 (c3 s.m t)) ∧ Below w.heap.size w w' := by
 have C := hid (fun (U : World) => cmpU_any s.m t U)
 have k0 := row_cell h 0
 simp only [List.getElem?_toArray, List.getElem?_cons_zero] at k0
 go_enter Tryz.func63, Tryz.ntmps63
 go_wp2_with (go_at_call 54; with_reducible refine (C.out _).mono ?_; rintro e w1 ⟨rfl, h1⟩; subst h1)
 go_ret
 exact ⟨rfl, Below.refl _ _⟩
/-- a member's place. -/
structure Plc (l : List (Nat × Sv)) (x : Int) (i : Nat) (b : Bool) : Prop where
 le : i ≤ l.length
 lo : ∀ k (hk : k < l.length), k < i → l[k].2.m < x
 hi : ∀ k (hk : k < l.length), i ≤ k → x ≤ l[k].2.m
 b : b = true ↔ ∃ h : i < l.length, l[i].2.m = x
theorem bsearch_any (x : Int) (p : Option Addr) (c : Nat) (l : List (Nat × Sv)) (w : World) (h : Me w p c l) (ho : Up l) (hsz : l.length ≤ 1000000000) :
  Calls Tryz.prog 62 #[.slice p l.length c, .int .u32 x, .func (.func 63) #[] #[]] w fun e w' => ∃ (i : Nat) (b : Bool), e = .returned (.tuple #[.int .i64 i, .bool b]) ∧ Plc l x i b ∧ Below w.heap.size w w' := by
 have hcap := (own_capc h.own).1
 have HL := hid h
 have HO := hid ho
 have HC := hid (fun (U : World) (hU : Below w.heap.size w U) (k : Nat) (hk : k < l.length) => on_b (place1_any l[k].1 l[k].2 x U (row_on (h.st _ (List.getElem_mem hk)) hU)) hU)
 obtain ⟨n, hn⟩ : ∃ n, l.length = n := ⟨_, rfl⟩
 have HN := hid hn
 rw [hn] at hcap hsz ⊢
 clear h ho hn
 go_enter Tryz.func62, Tryz.ntmps62
 go_wp2
 go_loopw [9, 10] (fun iv jv wr => ∃ i j : Nat, i ≤ j ∧ j ≤ n ∧ iv = .int .i64 i ∧ jv = .int .i64 j ∧ Hid (∀ k (hk : k < l.length), k < i → l[k].2.m < x) ∧ Hid (∀ k (hk : k < l.length), j ≤ k → x ≤ l[k].2.m) ∧ Hid (Below w.heap.size w wr)) (fun iv jv _ => (intOf jv).toNat - (intOf iv).toNat)
 case atStart => exact ⟨0, n, by omega, by omega, rfl, rfl, fun k _ hk => by omega, fun k hk h => by have := HN.out; omega, Below.refl _ _⟩
 case round =>
  obtain ⟨i, j, hij, hj, rfl, rfl, H1, H2, HB⟩ := hrel
  by_cases hlt : i < j
  ·obtain ⟨m, hm⟩ : ∃ m, (i + j) / 2 = m := ⟨_, rfl⟩
   have hm1 : i ≤ m := by omega
   have hm2 : m < j := by omega
   have hml : m < l.length := by have := HN.out; omega
   obtain ⟨g, rfl, a0, _⟩ := (HL.out.on HB.out).at hml
   have C := hid (HC.out wr HB.out m hml)
   obtain ⟨y, hy⟩ : ∃ y, l[m].1 = y := ⟨_, rfl⟩
   obtain ⟨v, hv⟩ : ∃ v, c3 l[m].2.m x = v := ⟨_, rfl⟩
   rw [hy] at a0 C
   rw [hv] at C
   have b1 : IntKind.u64.wrap ((i : Int) + (j : Int)) = (i : Int) + (j : Int) := by rw [IntKind.wrap_u64]; omega
   have b2 : ((i : Int) + (j : Int)) / 2 = (m : Int) := by omega
   have b3 : IntKind.i64.wrap (m : Int) = (m : Int) := by rw [IntKind.wrap_i64]; omega
   have m0 : (0 : Int) ≤ (m : Int) := by omega
   have m1 : (m : Int) < (n : Int) := by omega
   have HV := hid hv
   have HM := hid hm
   clear hm hy hv
   by_cases v0 : v < 0
   ·go_wp2_with (go_at_call 63; with_reducible refine (C.out).mono ?_; rintro e w1 ⟨rfl, HB1⟩)
    go_roundw
    case rel => exact ⟨m + 1, j, by omega, by omega, by go_num, rfl, fun k hk hkm => by
     have hbm : l[m].2.m < x := by have := HV.out; unfold c3 at this; split at this <;> first | assumption | (split at this <;> omega)
     by_cases e : k = m
     ·subst e; exact hbm
     ·have := HO.out.lt hk hml (by omega); omega, H2.out, HB1.out⟩
    case measure => simp [intOf]; omega
   ·have v0' : decide (v < 0) = false := by simpa using v0
    go_wp2_with (go_at_call 63; with_reducible refine (C.out).mono ?_; rintro e w1 ⟨rfl, HB1⟩)
    go_roundw
    case rel => exact ⟨i, m, hm1, by omega, rfl, rfl, H1.out, (fun k hk hkm => by
     have hbm : x ≤ l[m].2.m := by have := HV.out; unfold c3 at this; split at this <;> omega
     by_cases e : k = m
     ·subst e; exact hbm
     ·have := HO.out.lt hml hk (show m < k by omega); omega), HB1.out⟩
    case measure => simp [intOf]; omega
  ·obtain rfl : i = j := by omega
   by_cases hin : i < n
   ·have hil : i < l.length := by have := HN.out; omega
    obtain ⟨g, rfl, a0, _⟩ := (HL.out.on HB.out).at hil
    have C := hid (HC.out wr HB.out i hil)
    obtain ⟨y, hy⟩ : ∃ y, l[i].1 = y := ⟨_, rfl⟩
    obtain ⟨v, hv⟩ : ∃ v, c3 l[i].2.m x = v := ⟨_, rfl⟩
    rw [hy] at a0 C
    rw [hv] at C
    have i0 : (0 : Int) ≤ (i : Int) := by omega
    have i1 : (i : Int) < (n : Int) := by omega
    have HV := hid hv
    clear hy hv
    go_wp2_with (go_at_call 63; with_reducible refine (C.out).mono ?_; rintro e w1 ⟨rfl, HB1⟩)
    go_ret2
    refine ⟨i, (v == 0), rfl, ⟨by omega, H1.out, H2.out, ?_⟩, HB1.out⟩
    have hv := HV.out
    unfold c3 at hv
    constructor
    ·intro hz
     have hz' : v = 0 := by simpa using hz
     refine ⟨hil, ?_⟩
     split at hv
     ·omega
     ·split at hv <;> omega
    ·rintro ⟨_, e⟩
     rw [e, if_neg (by omega), if_neg (by omega)] at hv
     simp [← hv]
   ·have hin' : decide (i < n) = false := decide_eq_false hin
    go_wp2
    go_ret2
    refine ⟨i, false, rfl, ⟨by have := HN.out; omega, H1.out, H2.out, ?_⟩, HB.out⟩
    constructor
    ·intro h; cases h
    ·rintro ⟨h, _⟩
     have := HN.out
     omega
end Go.Proofs.YtlhbgaiiehljpaaGreat.Ac
namespace Go.Proofs.YtlhbgaiiehljpaaGreat.Ac
open Go.RowKit Go.Deep Go.Maps MonM Go.Proofs.YtlhbgaiiehljpaaGreat
set_option linter.unusedVariables false
set_option linter.unusedSimpArgs false
set_option maxHeartbeats 4000000
set_option maxRecDepth 100000
attribute [local go_sem ↓] Go.wp_at_zero Go.wp_at_succ
def mpOf (w : World) (M : Option Nat) (n : Nat) (f : Int × Int → Option Pv) : Prop := match M with | none => ∀ k, f k = none | some b => Mp kvP w b n f
/-- a house that lies. -/
structure Ho (w : World) (H : Nat) (o : Int) (p : Option Addr) (c : Nat) (l : List (Nat × Sv)) (M : Option Nat) (n : Nat) (f : Int × Int → Option Pv) : Prop where
 row : w.heap[H]? = some (.cells #[.int .u64 o, .slice p l.length c, .map M] 100 (0, 0))
 me : Me w p c l
 nd : (l.map (·.1)).Nodup
 up : Up l
 sz : l.length ≤ 1000000
 mp : mpOf w M n f
/-- its blocks. -/
def Ob (H : Nat) (p : Option Addr) (bs : List Nat) (M : Option Nat) (b : Nat) : Prop := b = H ∨ (∃ a, p = some a ∧ a.block = b) ∨ b ∈ bs ∨ M = some b
def bks (l : List (Nat × Sv)) : List Nat := l.map (·.1)
theorem Mp.obj {K V : Type} {s : Kv K V} {w : World} {M n : Nat} {f : K → Option V} (h : Mp s w M n f) : ∃ es cl, w.heap[M]? = some (.map es cl) := by
 obtain ⟨D, ⟨es, cl, h1, _⟩, _⟩ := h
 exact ⟨es, cl, h1⟩
theorem mpOf.kept {w w' : World} {F : Nat → Prop} {M : Option Nat} {n : Nat} {f : Int × Int → Option Pv} (h : mpOf w M n f) (hk : Kp F w w') (hF : ∀ b, M = some b → ¬ F b) : mpOf w' M n f := by
 cases M with
 | none => exact h
 | some b => exact Mp.kept h hk (hF b rfl)
theorem Ho.lt {w : World} {H : Nat} {o : Int} {p : Option Addr} {c : Nat} {l : List (Nat × Sv)} {M : Option Nat} {n : Nat} {f : Int × Int → Option Pv} (h : Ho w H o p c l M n f) {b : Nat} (hb : Ob H p (bks l) M b) : b < w.heap.size := by
 rcases hb with rfl | ⟨a, rfl, rfl⟩ | hb | rfl
 ·exact row_lt h.row
 ·obtain ⟨cur, e⟩ := own_ty h.me.own rfl
  exact row_lt e
 ·obtain ⟨x, hx, rfl⟩ := List.mem_map.1 hb
  exact row_lt (h.me.st x hx)
 ·exact Mp.lt h.mp
theorem Ho.kept {w w' : World} {F : Nat → Prop} {H : Nat} {o : Int} {p : Option Addr} {c : Nat} {l : List (Nat × Sv)} {M : Option Nat} {n : Nat} {f : Int × Int → Option Pv} (h : Ho w H o p c l M n f) (hk : Kp F w w') (hF : ∀ b, Ob H p (bks l) M b → ¬ F b) : Ho w' H o p c l M n f where
 row := hk.row h.row (hF _ (.inl rfl))
 me := ⟨own_same h.me.own (fun g hg => hk.obj g (by obtain ⟨cur, e⟩ := own_ty h.me.own hg; exact row_lt e) (hF g (.inr (.inl (by
  cases p with
  | none => cases hg
  | some a => exact ⟨a, rfl, by injection hg⟩))))), fun x hx => hk.row (h.me.st x hx) (hF _ (.inr (.inr (.inl (List.mem_map.2 ⟨x, hx, rfl⟩)))))⟩
 nd := h.nd
 up := h.up
 sz := h.sz
 mp := h.mp.kept hk (fun b e => hF b (.inr (.inr (.inr e))))
theorem Ho.on {w w' : World} {H : Nat} {o : Int} {p : Option Addr} {c : Nat} {l : List (Nat × Sv)} {M : Option Nat} {n : Nat} {f : Int × Int → Option Pv} (h : Ho w H o p c l M n f) (hb : Below w.heap.size w w') : Ho w' H o p c l M n f := h.kept (Kp.of (fun _ => False) hb) (fun _ _ h => h)
/-- a row of another type is none of its blocks. -/
theorem Ho.ne {w : World} {H : Nat} {o : Int} {p : Option Addr} {c : Nat} {l : List (Nat × Sv)} {M : Option Nat} {n : Nat} {f : Int × Int → Option Pv} (h : Ho w H o p c l M n f) {r : Nat} {cs : Array Value} {t : TypeId} (hr : w.heap[r]? = some (.cells cs t (0, 0))) (h1 : t ≠ 100) (h2 : t ≠ 104) (h3 : t ≠ 106) : ¬ Ob H p (bks l) M r := by
 rintro (rfl | ⟨a, rfl, rfl⟩ | hb | rfl)
 ·have e := h.row
  rw [hr] at e
  injection e with e
  injection e with _ e
  exact h1 e
 ·obtain ⟨cur, e⟩ := own_ty h.me.own rfl
  rw [hr] at e
  injection e with e
  injection e with _ e
  exact h2 e
 ·obtain ⟨x, hx, rfl⟩ := List.mem_map.1 hb
  have e := h.me.st x hx
  rw [hr] at e
  injection e with e
  injection e with _ e
  exact h3 e
 ·obtain ⟨es, cl, e⟩ := Mp.obj h.mp
  rw [hr] at e
  cases e
theorem place_any (x : Int) {H : Nat} {o : Int} {p : Option Addr} {c : Nat} {l : List (Nat × Sv)} {M : Option Nat} {n : Nat} {f : Int × Int → Option Pv} (w : World) (h : Ho w H o p c l M n f) :
  Calls Tryz.prog 31 #[pb H, .int .u32 x] w fun e w' => ∃ (i : Nat) (b : Bool), e = .returned (.tuple #[.int .i64 i, .bool b]) ∧ Plc l x i b ∧ Below w.heap.size w w' := by
 have C := hid (bsearch_any x p c l w h.me h.up (Nat.le_trans h.sz (by decide)))
 have k1 := row_cell h.row 1
 simp only [List.getElem?_toArray, List.getElem?_cons_succ, List.getElem?_cons_zero] at k1
 obtain ⟨k, hk⟩ : ∃ k, l.length = k := ⟨_, rfl⟩
 rw [hk] at C k1
 clear h hk
 go_enter Tryz.func31, Tryz.ntmps31
 go_wp2_with (go_at_call 62; with_reducible refine C.out.mono ?_; rintro e w1 ⟨i, b, rfl, h1, h2⟩; have H1 := hid h1; have H2 := hid h2; clear h1 h2)
 go_ret2
 exact ⟨i, b, rfl, H1.out, H2.out⟩
theorem up_one {l : List (Nat × Sv)} (h : Up l) {x y : Nat × Sv} (hx : x ∈ l) (hy : y ∈ l) (e : x.2.m = y.2.m) : x = y := by
 obtain ⟨i, hi, rfl⟩ := List.getElem_of_mem hx
 obtain ⟨j, hj, rfl⟩ := List.getElem_of_mem hy
 rcases Nat.lt_trichotomy i j with c | c | c
 ·have := h.lt hi hj c; omega
 ·subst c; rfl
 ·have := h.lt hj hi c; omega
theorem find_any (x : Int) {H : Nat} {o : Int} {p : Option Addr} {c : Nat} {l : List (Nat × Sv)} {M : Option Nat} {n : Nat} {f : Int × Int → Option Pv} (w : World) (h : Ho w H o p c l M n f) :
  Calls Tryz.prog 66 #[pb H, .int .u32 x] w fun e w' => ((∃ y ∈ l, y.2.m = x ∧ e = .returned (pb y.1)) ∨ ((∀ y ∈ l, y.2.m ≠ x) ∧ e = .returned (.pointer none))) ∧ Below w.heap.size w w' := by
 have C := hid (place_any x w h)
 have HH := hid h
 obtain ⟨k, hk⟩ : ∃ k, l.length = k := ⟨_, rfl⟩
 have HK := hid hk
 have KR := hid (fun (U : World) (hU : Below w.heap.size w U) => row_cell (row_on h.row hU) 1)
 simp only [hk] at KR
 clear h hk
 go_enter Tryz.func66, Tryz.ntmps66
 go_upto_region 2 with (go_at_call 31; with_reducible refine C.out.mono ?_; rintro e w1 ⟨i, b, rfl, h1, h2⟩; have H1 := hid h1; have H2 := hid h2; clear h1 h2)
 cases b with
 | false =>
  go_wp2
  go_ret
  refine ⟨.inr ⟨fun y hy e => ?_, rfl⟩, H2.out⟩
  obtain ⟨j, hj, rfl⟩ := List.getElem_of_mem hy
  have hb := H1.out.b
  by_cases c : i ≤ j
  ·by_cases c2 : i = j
   ·subst c2
    have := hb.2 ⟨hj, e⟩
    cases this
   ·have hi : i < l.length := by omega
    have := H1.out.hi i hi (Nat.le_refl _)
    have := HH.out.up.lt hi hj (by omega)
    omega
  ·have := H1.out.lo j hj (by omega)
   omega
 | true =>
  obtain ⟨hi, e⟩ := H1.out.b.1 rfl
  obtain ⟨g, e2, a0, -⟩ := (HH.out.on H2.out).me.at hi
  have k1 := KR.out w1 H2.out
  simp only [List.getElem?_toArray, List.getElem?_cons_succ, List.getElem?_cons_zero] at k1
  subst e2
  have i1 : i < k := by rw [← HK.out]; exact hi
  have hkc : k ≤ c := by rw [← HK.out]; exact (own_capc HH.out.me.own).1
  obtain ⟨y, hy⟩ : ∃ y, l[i] = y := ⟨_, rfl⟩
  have HY := hid (show y ∈ l from by rw [← hy]; exact List.getElem_mem hi)
  rw [hy] at a0 e
  have HE := hid e
  clear hy e hi
  go_wp2
  go_ret
  exact ⟨.inl ⟨y, HY.out, HE.out, rfl⟩, H2.out⟩
theorem new_any (x : Int) (w : World) :
  Calls Tryz.prog 14 #[.int .u64 x] w fun e w' => e = .returned (pb w.heap.size) ∧ Ho w' w.heap.size x none 0 [] none 0 (fun _ => none) ∧ Below w.heap.size w w' := by
 obtain ⟨W, hW⟩ : ∃ W, w.alloc (.cells #[.int .u64 x, .slice none 0 0, .map none] 100) = W := ⟨_, rfl⟩
 have BW := hid (show Below w.heap.size w W from by rw [← hW]; exact ball _ _)
 have RW := hid (show W.heap[w.heap.size]? = some (.cells #[.int .u64 x, .slice none 0 0, .map none] 100 (0, 0)) from by rw [← hW]; exact World.alloc_heap_new _ _)
 have HW := hid hW
 clear hW
 go_enter Tryz.func14, Tryz.ntmps14
 go_wp2
 rw [HW.out]
 go_ret
 exact ⟨rfl, ⟨RW.out, ⟨⟨by simp [pv], .inl ⟨rfl, rfl⟩⟩, fun x hx => by cases hx⟩, List.nodup_nil, List.Pairwise.nil, by simp, fun _ => rfl⟩, BW.out⟩
end Go.Proofs.YtlhbgaiiehljpaaGreat.Ac
namespace Go.Proofs.YtlhbgaiiehljpaaGreat.Ac
open Go.RowKit Go.Deep Go.Maps MonM Go.Proofs.YtlhbgaiiehljpaaGreat
set_option linter.unusedVariables false
set_option linter.unusedSimpArgs false
set_option maxHeartbeats 8000000
set_option maxRecDepth 100000
attribute [local go_sem ↓] Go.wp_at_zero Go.wp_at_succ
def fs (l : List (Nat × Sv)) : Int := l.foldl (fun a x => (a + x.2.fd) % 18446744073709551616) 0
theorem fs_snoc (l : List (Nat × Sv)) (x : Nat × Sv) : fs (l ++ [x]) = (fs l + x.2.fd) % 18446744073709551616 := by simp [fs, List.foldl_append]
abbrev HoP := Int × Int → Option Pv
theorem funds_any {H : Nat} {o : Int} {p : Option Addr} {c : Nat} {l : List (Nat × Sv)} {M : Option Nat} {n : Nat} {f : HoP} (w : World) (h : Ho w H o p c l M n f) :
  Calls Tryz.prog 32 #[pb H] w fun e w' => e = .returned (.int .u64 (fs l)) ∧ Below w.heap.size w w' := by
 have HH := hid h
 have hsz := h.sz
 have hkc := (own_capc h.me.own).1
 have k1 := row_cell h.row 1
 simp only [List.getElem?_toArray, List.getElem?_cons_succ, List.getElem?_cons_zero] at k1
 obtain ⟨k, hk⟩ : ∃ k, l.length = k := ⟨_, rfl⟩
 have HK := hid hk
 rw [hk] at k1 hsz hkc
 clear h hk
 go_enter Tryz.func32, Tryz.ntmps32
 go_upto_region 3 with fail
 go_loopw [3, 11] (fun sv iv wr => ∃ i : Nat, i ≤ k ∧ iv = .int .i64 i ∧ sv = .int .u64 (fs (l.take i)) ∧ Hid (Below w.heap.size w wr)) (fun _ iv _ => k - (intOf iv).toNat)
 case atStart => exact ⟨0, Nat.zero_le _, rfl, rfl, Below.refl _ _⟩
 case round =>
  obtain ⟨i, hik, rfl, rfl, HB⟩ := hrel
  by_cases hlt : i < k
  ·have hil : i < l.length := by rw [HK.out]; exact hlt
   obtain ⟨g, rfl, a0, a1⟩ := (HH.out.on HB.out).me.at hil
   have HS := hid (show fs (l.take (i + 1)) = (fs (l.take i) + l[i].2.fd) % 18446744073709551616 from by rw [List.take_succ_eq_append_getElem hil, fs_snoc])
   obtain ⟨y, hy⟩ : ∃ y, l[i] = y := ⟨_, rfl⟩
   rw [hy] at a0 a1 HS
   have a2 := row_cell a1 1
   simp only [List.getElem?_toArray, List.getElem?_cons_succ, List.getElem?_cons_zero] at a2
   have i0 : (0 : Int) ≤ (i : Int) := by omega
   have i1 : (i : Int) < (k : Int) := by omega
   obtain ⟨s, hs⟩ : ∃ s, fs (l.take i) = s := ⟨_, rfl⟩
   rw [hs] at HS ⊢
   have e1 : IntKind.u64.wrap (s + y.2.fd) = (s + y.2.fd) % 18446744073709551616 := IntKind.wrap_u64 _
   clear hy a1 hs
   go_wp2
   go_roundw
   case rel => exact ⟨i + 1, by omega, by go_num, by rw [HS.out, ← e1], HB.out⟩
   case measure => simp [intOf]; omega
  ·obtain rfl : i = k := by omega
   have hin : decide (i < i) = false := by simp
   have HF := hid (show fs (l.take i) = fs l from by rw [← HK.out, List.take_length])
   rw [HF.out]
   go_wp2
   go_ret
   exact ⟨rfl, HB.out⟩
theorem own_capn {base : Nat} {w : World} {e : TypeId} {size n c : Nat} {p : Option Addr} {xs : List Value} (h : w.ownsRow base e size (.slice p n c) n xs) : n ≤ c ∧ c ≤ maxLen ∧ (p = none → n = 0 ∧ c = 0) := by
 obtain ⟨h1, ⟨e', e2⟩ | ⟨g, c', cur, e', r1, r2, r3, r4, r5, r6⟩⟩ := h
 ·obtain ⟨_, h2, rfl⟩ := Value.slice.inj e'
  exact ⟨by omega, Nat.zero_le _, fun _ => ⟨by omega, rfl⟩⟩
 ·obtain ⟨rfl, _, rfl⟩ := Value.slice.inj e'
  exact ⟨r3, r4, fun h => by cases h⟩
theorem info_parts {e : TypeId} {z : Value} {size bytes : Nat} (h : (Tryz.prog.info? e).map (fun i => (i.zero, i.size, i.bytes)) = some (some z, size, bytes)) : ∃ i0, Tryz.prog.info? e = some i0 ∧ i0.zero = some z ∧ i0.size = size ∧ i0.bytes = bytes := by
 cases hq : Tryz.prog.info? e with
 | none => rw [hq] at h; cases h
 | some i =>
  rw [hq] at h
  simp only [Option.map_some, Option.some.injEq, Prod.mk.injEq] at h
  exact ⟨i, rfl, h.1, h.2.1, h.2.2⟩
theorem infoS : (Tryz.prog.info? 104).map (fun i => (i.zero, i.size, i.bytes)) = some (some (.pointer none), 1, 8) := by kernel_rfl
theorem Kp.grown {F : Nat → Prop} {w W U : World} {r : Option Nat} (h : Kp F w W) (hg : W.grownBy U r) (hr : ∀ j, r = some j → F j) : Kp F w U :=
 ⟨hg.os.trans h.os, hg.tape.trans h.tape, hg.output.trans h.output, Nat.le_trans h.size hg.size, fun g hgl hF => (hg.block g (Nat.lt_of_lt_of_le hgl h.size) (fun e => hF (hr g e.symm))).trans (h.obj g hgl hF)⟩
theorem own_blk {base : Nat} {w : World} {e : TypeId} {size n c : Nat} {p : Option Addr} {xs : List Value} (h : w.ownsRow base e size (.slice p n c) n xs) {j : Nat} (hj : (Value.slice p n c).ownBlock = some j) : OfP p j := by
 obtain ⟨_, ⟨e, _⟩ | ⟨g', c', cur, e, _⟩⟩ := h
 ·rw [e] at hj; cases hj
 ·have e5 := (Value.slice.inj e).1
  rw [e] at hj; cases hj
  exact e5
theorem insert_end (p : Option Addr) (c V b : Nat) (xs : List Value) (n : Nat) (w : World) (h : w.ownsRow 0 104 1 (.slice p n c) n xs) (hV : w.heap[V]? = some (.cells #[pb b] 104 (0, 0))) (hn : n ≤ 1000000) :
  Calls Tryz.prog 33 #[.slice p n c, .int .i64 n, .slice (some ⟨V, 0, none⟩) 1 1] w fun e w' => ∃ g d, e = .returned (.slice (some ⟨g, 0, none⟩) (n + 1 : Nat) d) ∧ w'.ownsRow 0 104 1 (.slice (some ⟨g, 0, none⟩) (n + 1) d) (n + 1) (xs ++ [pb b]) ∧ Kp (fun j => OfP p j) w w' ∧ (OfP p g ∨ g = w.heap.size) := by
 have hc := own_capn h
 have hc1 := hc.1
 have HNN := hid hc.2.2
 have HO := hid h
 have RN := hid (show ∀ ad, some (⟨V, 0, none⟩ : Addr) = some ad → ∀ j u, ([pb b] : List Value)[j]? = some u → w.cell? (ad.add j) = some u from by
  intro ad e j u hj
  injection e with e
  subst e
  rw [Addr.add_lit, Nat.zero_add, row_cell hV]
  simpa using hj)
 have q1 : ((n : Int) == (n : Int)) = true := by simp
 clear h hc hV
 obtain ⟨i0, hi, hz0, hz1, hz2⟩ := info_parts infoS
 have HI := hid (And.intro hi (And.intro hz0 (And.intro hz1 hz2)))
 have FIN := hid (show ∀ (g cap : Nat) (w' : World), w.grownBy w' (Value.slice p n c).ownBlock → ((Value.slice p n c).ownBlock = some g ∨ g = w.heap.size) → Kp (fun j => OfP p j) w w' ∧ (OfP p g ∨ g = w.heap.size) from fun g cap w' h2 h3 =>
  ⟨(Kp.refl _ _).grown h2 (fun j hj => own_blk HO.out hj), h3.imp (fun h => own_blk HO.out h) id⟩)
 have H1 := hid (show ∀ u ∈ ([pb b] : List Value), u.oneCell' = true from fun u hu => by simp at hu; subst hu; rfl)
 clear hi hz0 hz1 hz2
 cases p with
 | none =>
  obtain ⟨rfl, rfl⟩ := HNN.out rfl
  go_enter Tryz.func33, Tryz.ntmps33
  go_wp2_with (at_builtin; refine wpList_append_lies w (by rfl) (.tmp 23) (.tmp 24) 97 (by rfl) 0 104 i0 _ 1 8 Tryz.underlying97 HI.out.1 HI.out.2.1 HI.out.2.2.1 HI.out.2.2.2 rfl (by decide) _ 0 xs (by rfl) HO.out ⟨V, 0, none⟩ 1 1 [pb b] (by rfl) (by rfl) (RN.out _ rfl) H1.out (by decide) (by decide) (by decide) (Nat.zero_le _) _ rfl ?_; intro g cap w' h1 h2 h3 h4; have O1 := hid h1; have F := hid (FIN.out g cap w' h2 h3); clear h1 h2 h3 h4)
  go_ret
  exact ⟨_, _, rfl, O1.out, F.out.1, F.out.2⟩
 | some ad =>
  obtain ⟨m, hm⟩ : ∃ m, (n : Int) = m := ⟨_, rfl⟩
  clear hm m
  go_enter Tryz.func33, Tryz.ntmps33
  go_wp2_with (at_builtin; refine wpList_append_lies w (by rfl) (.tmp 23) (.tmp 24) 97 (by rfl) 0 104 i0 _ 1 8 Tryz.underlying97 HI.out.1 HI.out.2.1 HI.out.2.2.1 HI.out.2.2.2 rfl (by decide) _ n xs (by rfl) HO.out ⟨V, 0, none⟩ 1 1 [pb b] (by rfl) (by rfl) (RN.out _ rfl) H1.out (by decide) (by unfold maxLen; omega) (by omega) (Nat.zero_le _) _ rfl ?_; intro g cap w' h1 h2 h3 h4; have O1 := hid h1; have F := hid (FIN.out g cap w' h2 h3); clear h1 h2 h3 h4)
  all_goals
   go_ret
   exact ⟨_, _, rfl, O1.out, F.out.1, F.out.2⟩
end Go.Proofs.YtlhbgaiiehljpaaGreat.Ac
