/-
  ZrA
-/
import Derived.Test.YtlhbgaiiehljpaaGreatGCa
import Derived.Test.YtlhbgaiiehljpaaGreatCdC
namespace Go.Proofs.YtlhbgaiiehljpaaGreat.Ac
open Go.RowKit Go.Deep Go.Maps MonM Go.Proofs.YtlhbgaiiehljpaaGreat
set_option linter.unusedVariables false
set_option linter.unusedSimpArgs false
set_option maxRecDepth 100000
def kN (x : Nt) : Key := (x.m, x.i)
/-- a sum over nets. -/
def tot (g : Key → Int) : List Nt → Int
 | [] => 0
 | x :: r => g (kN x) + tot g r
theorem tot_add (g h : Key → Int) (r : List Nt) : tot (fun k => g k + h k) r = tot g r + tot h r := by
 induction r with
 | nil => rfl
 | cons x r ih => simp only [tot, ih]; omega
theorem tot_zero (r : List Nt) : tot (fun _ => 0) r = 0 := by
 induction r with
 | nil => rfl
 | cons x r ih => simp only [tot, ih]; rfl
theorem tot_none {k : Key} (c : Int) : ∀ (r : List Nt), k ∉ r.map kN → tot (fun k' => if k' = k then c else 0) r = 0
 | [], _ => rfl
 | x :: r, h => by
  rw [List.map_cons, List.mem_cons, not_or] at h
  simp only [tot]
  rw [if_neg (fun e => h.1 e.symm), tot_none c r h.2]
  rfl
theorem tot_one {k : Key} (c : Int) : ∀ (r : List Nt), (r.map kN).Nodup → k ∈ r.map kN → tot (fun k' => if k' = k then c else 0) r = c
 | [], _, h => by cases h
 | x :: r, hn, h => by
  rw [List.map_cons, List.nodup_cons] at hn
  rw [List.map_cons, List.mem_cons] at h
  simp only [tot]
  by_cases e : kN x = k
  ·rw [if_pos e, tot_none c r (by rw [← e]; exact hn.1)]
   omega
  ·rcases h with h | h
   ·exact absurd h.symm e
   ·rw [if_neg e, tot_one c r hn.2 h]
    omega
theorem reln_keys {f : Ks2} {r : List Nt} (h : RelN f r) : (r.map kN).Nodup := by
 have hu := h.up
 rw [List.pairwise_map] at hu
 rw [List.Nodup, List.pairwise_map]
 refine hu.imp_of_mem (fun {a b} ha hb hab e => ?_)
 have e1 : a.m = b.m := congrArg Prod.fst e
 have e2 : a.i = b.i := congrArg Prod.snd e
 unfold Nt.ky at hab
 rw [e1, e2] at hab
 omega
/-- the deals' keys are among the nets. -/
def Kin (r : List Nt) (l : List Dl) : Prop := ∀ d ∈ l, (d.buy, d.ins) ∈ r.map kN ∧ (d.sel, d.ins) ∈ r.map kN
theorem tqs_mem : ∀ (l : List Dl) (d : Dl), d ∈ l → ∀ k, tq d k → tqs l k
 | x :: r, d, hd, k, hk => by
  rcases List.mem_cons.1 hd with rfl | hd
  ·exact .inl hk
  ·exact .inr (tqs_mem r d hd k hk)
theorem kin_of {l : List Dl} {r : List Nt} (h : nerr l = 0) (hl : l.length ≤ 1000000000) (hok : ∀ d ∈ l, d.ok) (hr : RelN (nst e0 l) r) : Kin r l := fun d hd => by
 have key : ∀ k : Key, U32 k.1 → U32 k.2 → tq d k → k ∈ r.map kN := fun k u1 u2 hk => by
  have hs := (nst_e l k h hl).2.2 (tqs_mem l d hd k hk)
  obtain ⟨v, hv⟩ := Option.isSome_iff_exists.1 hs
  exact List.mem_map.2 ⟨_, (hr.iff k.1 k.2 v u1 u2).1 hv, rfl⟩
 obtain ⟨u1, u2, u3, _⟩ := hok d hd
 exact ⟨key _ u2 u1 (.inl rfl), key _ u3 u1 (.inr rfl)⟩
theorem totP {r : List Nt} (hn : (r.map kN).Nodup) : ∀ (l : List Dl), Kin r l → tot (sumP l) r = 0
 | [], _ => tot_zero r
 | d :: l, hk => by
  have ih := totP hn l (fun x hx => hk x (List.mem_cons_of_mem _ hx))
  obtain ⟨k1, k2⟩ := hk d (List.mem_cons_self ..)
  have e : sumP (d :: l) = fun k => ((if k = (d.buy, d.ins) then d.pr * d.q else 0) + (if k = (d.sel, d.ins) then -(d.pr * d.q) else 0)) + sumP l k := rfl
  rw [e, tot_add (fun k => (if k = (d.buy, d.ins) then d.pr * d.q else 0) + (if k = (d.sel, d.ins) then -(d.pr * d.q) else 0)) (sumP l) r, ih, tot_add (fun k => if k = (d.buy, d.ins) then d.pr * d.q else 0) (fun k => if k = (d.sel, d.ins) then -(d.pr * d.q) else 0) r, tot_one _ r hn k1, tot_one _ r hn k2]
  omega
/-- of one instrument. -/
def onI (i : Int) (g : Key → Int) : Key → Int := fun k => if k.2 = i then g k else 0
theorem onI_one (i c : Int) (k : Key) : onI i (fun k' => if k' = k then c else 0) = fun k' => if k' = k then (if k.2 = i then c else 0) else 0 := by
 funext k'
 show (if k'.2 = i then (if k' = k then c else 0) else 0) = if k' = k then (if k.2 = i then c else 0) else 0
 by_cases e : k' = k
 ·subst e
  rw [if_pos rfl, if_pos rfl]
 ·rw [if_neg e, if_neg e]
  split <;> rfl
theorem onI_add (i : Int) (g h : Key → Int) : onI i (fun k => g k + h k) = fun k => onI i g k + onI i h k := by
 funext k
 unfold onI
 by_cases e : k.2 = i
 ·rw [if_pos e, if_pos e, if_pos e]
 ·rw [if_neg e, if_neg e, if_neg e]
  rfl
theorem totBS {r : List Nt} (hn : (r.map kN).Nodup) (i : Int) : ∀ (l : List Dl), Kin r l → tot (onI i (sumB l)) r = tot (onI i (sumS l)) r
 | [], _ => rfl
 | d :: l, hk => by
  have ih := totBS hn i l (fun x hx => hk x (List.mem_cons_of_mem _ hx))
  obtain ⟨k1, k2⟩ := hk d (List.mem_cons_self ..)
  have e1 : sumB (d :: l) = fun k => (if k = (d.buy, d.ins) then d.q else 0) + sumB l k := rfl
  have e2 : sumS (d :: l) = fun k => (if k = (d.sel, d.ins) then d.q else 0) + sumS l k := rfl
  rw [e1, e2, onI_add i (fun k => if k = (d.buy, d.ins) then d.q else 0) (sumB l), onI_add i (fun k => if k = (d.sel, d.ins) then d.q else 0) (sumS l), tot_add, tot_add, onI_one, onI_one, tot_one _ r hn k1, tot_one _ r hn k2, ih]
/-- sums that wrap. -/
theorem tot_mod (g h : Key → Int) : ∀ (r : List Nt), (∀ x ∈ r, g (kN x) = h (kN x) % 18446744073709551616) → tot g r % 18446744073709551616 = tot h r % 18446744073709551616
 | [], _ => rfl
 | x :: r, hx => by
  have ih := tot_mod g h r (fun y hy => hx y (List.mem_cons_of_mem _ hy))
  have h1 := hx x (List.mem_cons_self ..)
  simp only [tot]
  omega
theorem tot_eq (g h : Key → Int) : ∀ (r : List Nt), (∀ x ∈ r, g (kN x) = h (kN x)) → tot g r = tot h r
 | [], _ => rfl
 | x :: r, hx => by
  simp only [tot]
  rw [hx x (List.mem_cons_self ..), tot_eq g h r (fun y hy => hx y (List.mem_cons_of_mem _ hy))]
/-- as much is bought as sold. -/
theorem even_i {l : List Dl} {r : List Nt} (h : nerr l = 0) (hl : l.length ≤ 1000000000) (hok : ∀ d ∈ l, d.ok) (hr : RelN (nst e0 l) r) (i : Int) :
  tot (onI i fun k => (gN (nst e0 l) k).b) r % 18446744073709551616 = tot (onI i fun k => (gN (nst e0 l) k).s) r % 18446744073709551616 := by
 have hk := kin_of h hl hok hr
 rw [tot_mod (onI i fun k => (gN (nst e0 l) k).b) (onI i (sumB l)) r (fun x _ => by show (if (kN x).2 = i then (gN (nst e0 l) (kN x)).b else 0) = (if (kN x).2 = i then sumB l (kN x) else 0) % 18446744073709551616; rw [(nst_e l (kN x) h hl).1]; split <;> rfl),
  tot_mod (onI i fun k => (gN (nst e0 l) k).s) (onI i (sumS l)) r (fun x _ => by show (if (kN x).2 = i then (gN (nst e0 l) (kN x)).s else 0) = (if (kN x).2 = i then sumS l (kN x) else 0) % 18446744073709551616; rw [(nst_e l (kN x) h hl).1]; split <;> rfl), totBS (reln_keys hr) i l hk]
/-- nothing is left over. -/
theorem even_p {l : List Dl} {r : List Nt} (h : nerr l = 0) (hl : l.length ≤ 1000000000) (hok : ∀ d ∈ l, d.ok) (hr : RelN (nst e0 l) r) : tot (fun k => (gN (nst e0 l) k).a) r = 0 := by
 rw [tot_eq (fun k => (gN (nst e0 l) k).a) (sumP l) r (fun x _ => by rw [(nst_e l (kN x) h hl).1]), totP (reln_keys hr) l (kin_of h hl hok hr)]
end Go.Proofs.YtlhbgaiiehljpaaGreat.Ac
namespace Go.Proofs.YtlhbgaiiehljpaaGreat.Ac
open Go.RowKit Go.Deep Go.Maps MonM Go.Proofs.YtlhbgaiiehljpaaGreat
set_option linter.unusedVariables false
set_option linter.unusedSimpArgs false
set_option maxRecDepth 100000
/-- a sum over a list. -/
def sL {A : Type} (g : A → Int) : List A → Int
 | [] => 0
 | x :: r => g x + sL g r
theorem sL_app {A : Type} (g : A → Int) : ∀ (a b : List A), sL g (a ++ b) = sL g a + sL g b
 | [], b => by simp [sL]
 | x :: a, b => by simp only [List.cons_append, sL, sL_app g a b]; omega
theorem sL_next {A : Type} (g : A → Int) (r : List A) {k : Nat} (h : k < r.length) : sL g (r.take (k + 1)) = sL g (r.take k) + g r[k] := by
 rw [List.take_succ_eq_append_getElem h, sL_app]
 simp [sL]
theorem sL_bd {A : Type} (g : A → Int) (B : Int) : ∀ (r : List A), (∀ x ∈ r, -B ≤ g x ∧ g x ≤ B) → -(B * (r.length : Int)) ≤ sL g r ∧ sL g r ≤ B * (r.length : Int)
 | [], _ => by simp [sL]
 | x :: r, h => by
  have h1 := h x (List.mem_cons_self ..)
  have h2 := sL_bd g B r (fun y hy => h y (List.mem_cons_of_mem _ hy))
  simp only [sL, List.length_cons]
  rw [show ((r.length + 1 : Nat) : Int) = (r.length : Int) + 1 by omega, Int.mul_add, Int.mul_one]
  omega
theorem sL_eq {A : Type} (g h : A → Int) : ∀ (r : List A), (∀ x ∈ r, g x = h x) → sL g r = sL h r
 | [], _ => rfl
 | x :: r, hx => by
  simp only [sL]
  rw [hx x (List.mem_cons_self ..), sL_eq g h r (fun y hy => hx y (List.mem_cons_of_mem _ hy))]
theorem tot_sL (g : Key → Int) : ∀ (r : List Nt), tot g r = sL (fun x => g (kN x)) r
 | [] => rfl
 | x :: r => by simp only [tot, sL, tot_sL g r]
theorem sL_add {A : Type} (g h : A → Int) : ∀ (r : List A), sL (fun x => g x + h x) r = sL g r + sL h r
 | [] => rfl
 | x :: r => by simp only [sL, sL_add g h r]; omega
theorem sL_zero {A : Type} : ∀ (r : List A), sL (fun _ => 0) r = 0
 | [] => rfl
 | x :: r => by simp only [sL, sL_zero r]; rfl
/-- what a member's nets come to. -/
def dsum (l : List (Int × Int)) (m : Int) : Int := sL (fun x => if x.1 = m then x.2 else 0) l
theorem dues_at (B : Int) (hB : 0 ≤ B) : ∀ (l : List (Int × Int)) (f : Int → Option Int), (∀ x ∈ l, -B ≤ x.2 ∧ x.2 ≤ B) → (∀ m, -170141183460469231731687303715884105727 ≤ (f m).getD 0 - B * (l.length : Int) ∧ (f m).getD 0 + B * (l.length : Int) ≤ 170141183460469231731687303715884105727) →
  ∃ g, dues f l = some g ∧ (∀ m, (g m).getD 0 = (f m).getD 0 + dsum l m) ∧ ∀ m, ((g m).isSome = true ↔ (f m).isSome = true ∨ m ∈ l.map (·.1))
 | [], f, _, _ => ⟨f, rfl, fun m => by simp [dsum, sL], fun m => by simp⟩
 | x :: r, f, h1, h2 => by
  have hx := h1 x (List.mem_cons_self ..)
  have hf := h2 x.1
  have hl : (((x :: r).length : Nat) : Int) = (r.length : Int) + 1 := by rw [List.length_cons]; omega
  have hr0 : (0 : Int) ≤ B * (r.length : Int) := Int.mul_nonneg hB (by omega)
  rw [hl, Int.mul_add, Int.mul_one] at hf
  have e0 : maddE ((f x.1).getD 0) x.2 = 0 := by unfold maddE; rw [if_pos (by omega)]
  have ev : maddV ((f x.1).getD 0) x.2 = (f x.1).getD 0 + x.2 := by unfold maddV; rw [if_pos (by omega)]
  have hd : dues f (x :: r) = dues (upd f x.1 ((f x.1).getD 0 + x.2)) r := by
   show (if maddE ((f x.1).getD 0) x.2 = 0 then dues (upd f x.1 (maddV ((f x.1).getD 0) x.2)) r else none) = _
   rw [if_pos e0, ev]
  have hu : ∀ m, (upd f x.1 ((f x.1).getD 0 + x.2) m).getD 0 = (f m).getD 0 + (if x.1 = m then x.2 else 0) := fun m => by
   by_cases c : m = x.1
   ·subst c
    rw [upd_same, if_pos rfl]
    rfl
   ·rw [upd_other _ _ c, if_neg (fun e => c e.symm)]
    omega
  obtain ⟨g, hg1, hg2, hg3⟩ := dues_at B hB r (upd f x.1 ((f x.1).getD 0 + x.2)) (fun y hy => h1 y (List.mem_cons_of_mem _ hy)) (fun m => by
   have hm := h2 m
   rw [hl, Int.mul_add, Int.mul_one] at hm
   rw [hu m]
   split <;> omega)
  refine ⟨g, by rw [hd, hg1], fun m => ?_, fun m => ?_⟩
  ·rw [hg2, hu]
   simp only [dsum, sL]
   omega
  ·rw [hg3, List.map_cons, List.mem_cons]
   by_cases c : m = x.1
   ·subst c
    rw [upd_same]
    simp
   ·rw [upd_other _ _ c]
    simp [c]
theorem iL_one {m : Int} (c : Int) : ∀ (r : List Int), r.Nodup → m ∈ r → sL (fun x => if m = x then c else 0) r = c
 | [], _, h => by cases h
 | x :: r, hn, h => by
  rw [List.nodup_cons] at hn
  simp only [sL]
  by_cases e : m = x
  ·rw [if_pos e, sL_eq (fun x => if m = x then c else 0) (fun _ => 0) r (fun y hy => if_neg (fun e2 => hn.1 (by rw [← e, e2]; exact hy))), sL_zero]
   omega
  ·rcases List.mem_cons.1 h with h | h
   ·exact absurd h e
   ·rw [if_neg e, iL_one c r hn.2 h]
    omega
/-- all members' sums together. -/
theorem dsum_all {ms : List Int} (hn : ms.Nodup) : ∀ (l : List (Int × Int)), (∀ x ∈ l, x.1 ∈ ms) → sL (dsum l) ms = sL (·.2) l
 | [], _ => by
  show sL (fun _ => sL _ []) ms = 0
  exact sL_zero ms
 | x :: r, h => by
  have e : dsum (x :: r) = fun m => (if x.1 = m then x.2 else 0) + dsum r m := rfl
  rw [e, sL_add (fun m => if x.1 = m then x.2 else 0) (dsum r), iL_one x.2 ms hn (h x (List.mem_cons_self ..)), dsum_all hn r (fun y hy => h y (List.mem_cons_of_mem _ hy))]
  rfl
theorem sL_map {A C : Type} (g : A → Int) (f : C → A) : ∀ (l : List C), sL g (l.map f) = sL (fun x => g (f x)) l
 | [] => rfl
 | x :: r => by simp only [List.map_cons, sL, sL_map g f r]
/-- rising numbers are no more than fit. -/
theorem rise_len (N : Int) : ∀ (l : List Int) (lo : Int), (∀ x ∈ l, lo ≤ x ∧ x < N) → l.Pairwise (· < ·) → lo ≤ N → (l.length : Int) ≤ N - lo
 | [], lo, _, _, h => by simp; omega
 | x :: r, lo, h, hp, hN => by
  rw [List.pairwise_cons] at hp
  have hx := h x (List.mem_cons_self ..)
  have := rise_len N r (x + 1) (fun y hy => ⟨by have := hp.1 y hy; omega, (h y (List.mem_cons_of_mem _ hy)).2⟩) hp.2 (by omega)
  rw [List.length_cons]
  omega
theorem nst_sm {l : List Dl} (h : nerr l = 0) (hl : l.length ≤ 1048576) (k : Key) : -1180591620717411303424 ≤ (gN (nst e0 l) k).a ∧ (gN (nst e0 l) k).a ≤ 1180591620717411303424 := by
 rw [(nst_e l k h (by omega)).1]
 have := sumP_bd l k h
 show _ ≤ sumP l k ∧ sumP l k ≤ _
 omega
/-- what is known of the nets of deals, and of their dues. -/
structure Zr (r : List Nt) (d : List (Int × Int)) : Prop where
 len : r.length ≤ 2097152
 dlen : d.length ≤ 4294967296
 u : ∀ x ∈ r, U32 x.m ∧ U32 x.i ∧ Word x.b ∧ Word x.s
 sm : ∀ x ∈ r, -1180591620717411303424 ≤ x.a ∧ x.a ≤ 1180591620717411303424
 up : ∀ k, (h : k + 1 < r.length) → r[k].m < r[k+1].m ∨ r[k].m = r[k+1].m ∧ r[k].i < r[k+1].i
 even : ∀ i, sL (fun x => if x.i = i then x.b else 0) r % 18446744073709551616 = sL (fun x => if x.i = i then x.s else 0) r % 18446744073709551616
 zero : sL (·.a) r = 0
 du : ∀ x ∈ d, U32 x.1 ∧ x.2 = sL (fun y => if y.m = x.1 then y.a else 0) r
 dup : ∀ k, (h : k + 1 < d.length) → d[k].1 < d[k+1].1
 dzero : sL (·.2) d = 0
theorem zr_of {l : List Dl} {r : List Nt} (h : nerr l = 0) (hl : l.length ≤ 1048576) (hok : ∀ d ∈ l, d.ok) (hr : RelN (nst e0 l) r) (hn : r.length ≤ 2 * l.length) :
  ∃ g, dues (fun _ => none) (nma r) = some g ∧ ∀ d, Rel g d → Zr r d := by
 have hl' : l.length ≤ 1000000000 := by omega
 have hg : ∀ x ∈ r, gN (nst e0 l) (x.m, x.i) = ⟨x.b, x.s, x.a⟩ := fun x hx => reln_gN hr hx
 have sm : ∀ x ∈ r, -1180591620717411303424 ≤ x.a ∧ x.a ≤ 1180591620717411303424 := fun x hx => by
  have := nst_sm h hl (x.m, x.i)
  rw [hg x hx] at this
  exact this
 have hnm : (nma r).length = r.length := List.length_map ..
 obtain ⟨g, g1, g2, g3⟩ := dues_at 1180591620717411303424 (by decide) (nma r) (fun _ => none) (fun x hx => by
  obtain ⟨y, hy, rfl⟩ := List.mem_map.1 hx
  exact sm y hy) (fun m => by
   rw [hnm]
   show _ ≤ (0 : Int) - _ ∧ (0 : Int) + _ ≤ _
   omega)
 have dsm : ∀ m, dsum (nma r) m = sL (fun y => if y.m = m then y.a else 0) r := fun m => sL_map _ _ r
 refine ⟨g, g1, fun d hd => ?_⟩
 have d2 : ∀ x ∈ d, x.2 = dsum (nma r) x.1 := fun x hx => by
  have h1 := (hd.iff x.1 x.2 (hd.ok x hx).1).2 hx
  have h2 := g2 x.1
  rw [h1] at h2
  have : x.2 = 0 + dsum (nma r) x.1 := h2
  omega
 have dn : (d.map (·.1)).Nodup := hd.up.imp (fun h => by omega)
 have dm : ∀ x ∈ nma r, x.1 ∈ d.map (·.1) := fun x hx => by
  obtain ⟨y, hy, rfl⟩ := List.mem_map.1 hx
  have hs := (g3 y.m).2 (.inr (List.mem_map.2 ⟨_, hx, rfl⟩))
  obtain ⟨v, hv⟩ := Option.isSome_iff_exists.1 hs
  exact List.mem_map.2 ⟨_, (hd.iff y.m v (hr.ok y hy).1).1 hv, rfl⟩
 have za : sL (·.a) r = 0 := by
  have := even_p h hl' hok hr
  rw [tot_sL] at this
  rw [← this]
  exact sL_eq _ _ r (fun x hx => by show x.a = (gN (nst e0 l) (x.m, x.i)).a; rw [hg x hx])
 refine ⟨by omega, ?_, fun x hx => ?_, sm, fun k hk => ?_, fun i => ?_, za, fun x hx => ⟨(hd.ok x hx).1, by rw [d2 x hx, dsm]⟩, fun k hk => ?_, ?_⟩
 ·have := rise_len 4294967296 (d.map (·.1)) 0 (fun x hx => by
   obtain ⟨y, hy, rfl⟩ := List.mem_map.1 hx
   exact u32_bd (hd.ok y hy).1) hd.up (by decide)
  rw [List.length_map] at this
  omega
 ·obtain ⟨u1, u2, _, u4, u5⟩ := hr.ok x hx
  exact ⟨u1, u2, u4, u5⟩
 ·have hu := hr.up
  rw [List.pairwise_map] at hu
  have := List.pairwise_iff_getElem.1 hu k (k+1) (by omega) hk (by omega)
  have a1 := u32_bd (hr.ok r[k] (List.getElem_mem _)).1
  have a2 := u32_bd (hr.ok r[k] (List.getElem_mem _)).2.1
  have b1 := u32_bd (hr.ok r[k+1] (List.getElem_mem _)).1
  have b2 := u32_bd (hr.ok r[k+1] (List.getElem_mem _)).2.1
  unfold Nt.ky ky at this
  omega
 ·have := even_i h hl' hok hr i
  rw [tot_sL, tot_sL] at this
  have e1 : sL (fun x => if x.i = i then x.b else 0) r = sL (fun x => onI i (fun k => (gN (nst e0 l) k).b) (kN x)) r := sL_eq _ _ r (fun x hx => by
   show _ = if x.i = i then (gN (nst e0 l) (x.m, x.i)).b else 0
   rw [hg x hx])
  have e2 : sL (fun x => if x.i = i then x.s else 0) r = sL (fun x => onI i (fun k => (gN (nst e0 l) k).s) (kN x)) r := sL_eq _ _ r (fun x hx => by
   show _ = if x.i = i then (gN (nst e0 l) (x.m, x.i)).s else 0
   rw [hg x hx])
  rw [e1, e2, this]
 ·have hu := hd.up
  rw [List.pairwise_map] at hu
  exact List.pairwise_iff_getElem.1 hu k (k+1) (by omega) hk (by omega)
 ·have h1 := dsum_all dn (nma r) dm
  rw [sL_map] at h1
  rw [sL_eq (fun x : Int × Int => x.2) (fun x => dsum (nma r) x.1) d d2, h1]
  show sL (fun x : Int × Int => x.2) (r.map (fun x => (x.m, x.a))) = 0
  rw [sL_map]
  exact za
end Go.Proofs.YtlhbgaiiehljpaaGreat.Ac
namespace Go.Proofs.YtlhbgaiiehljpaaGreat.Ac
open Go.RowKit Go.Deep Go.Maps MonM Go.Proofs.YtlhbgaiiehljpaaGreat
set_option linter.unusedVariables false
set_option linter.unusedSimpArgs false
set_option maxRecDepth 100000
def NeZ (base : Nat) (w' : World) (q : Option Addr) (m : Nat) (er : Int) (x : List Dl) (d : Nat) : Prop := er = nerr x ∧ (er ≠ 0 → m = 0) ∧ (er = 0 → m ≤ 2 * x.length ∧ ∃ r : List Nt, r.length = m ∧ RelN (nst e0 x) r ∧ w'.ownsRow base 38 6 (.slice q m d) m (ncs r))
theorem netted_z {U : World} {p : Option Addr} {k m : Nat} {x : List Dl} (hU : Lz U p x) (hx : ∀ y ∈ x, y.ok) (hm : x.length = m) (hk : m ≤ 1000000000) :
  Calls Tryz.prog 6 #[.slice p m k] U fun e w' => ∃ q n d er, e = .returned (.tuple #[.slice q n d, .int .i64 er]) ∧ NeZ U.heap.size w' q n er x d ∧ Below U.heap.size U w' := by
 subst hm
 refine (netted_any hU hx hk).mono ?_
 rintro e w' ⟨⟨h1, rfl⟩ | ⟨h1, r, q, d, n, h2, rfl, h3, h4, h5⟩, hb⟩
 ·exact ⟨none, 0, 0, _, rfl, ⟨rfl, fun _ => rfl, fun h => absurd h h1⟩, hb⟩
 ·exact ⟨q, n, d, 0, rfl, ⟨h1.symm, fun h => absurd rfl h, fun _ => ⟨h5, r, h2, h3, h4⟩⟩, hb⟩
theorem nz_own {base : Nat} {w : World} {q : Option Addr} {n c : Nat} {r : List Nt} (hn : r.length = n) (h : w.ownsRow base 38 6 (.slice q n c) n (ncs r)) : Nz w q r := fun k hk => by
 obtain ⟨g, rfl, _, hg⟩ := own_some h (by omega)
 refine ⟨g, 0, rfl, hg, fun j hj => ?_⟩
 have hs : j < (nce r[k]).length := hj
 rw [Nat.zero_add, nets_cell h hk hj (List.getElem?_eq_getElem hs)]
 match j, hj with
 | 0, _ => rfl
 | 1, _ => rfl
 | 2, _ => rfl
 | 3, _ => rfl
 | 4, _ => rfl
 | 5, _ => rfl
theorem dues_z {U : World} {q : Option Addr} {n d : Nat} {r : List Nt} {g : Int → Option Int} (hz : Nz U q r) (hok : ∀ x ∈ r, x.ok) (hm : r.length = n) (hn : n ≤ 1000000000) (hg : dues (fun _ => none) (nma r) = some g) (hZ : ∀ dl, Rel g dl → Zr r dl) :
  Calls Tryz.prog 7 #[.slice q n d] U fun e w' => ∃ (q3 : Option Addr) (n3 d3 : Nat) (dl : List (Int × Int)), e = .returned (.tuple #[.slice q3 n3 d3, .int .i64 0]) ∧ dl.length = n3 ∧ Zr r dl ∧ w'.ownsRow U.heap.size 40 3 (.slice q3 n3 d3) n3 (dcs dl) ∧ Below U.heap.size U w' := by
 subst hm
 refine (dues_any hz hok hn).mono ?_
 rintro e w' ⟨h1, hb⟩
 rw [hg] at h1
 obtain ⟨dl, q3, d3, n3, h2, h3, h4, h5⟩ := h1
 exact ⟨q3, n3, d3, dl, h3, h2, hZ dl h4, h5, hb⟩
theorem dues_cell {base : Nat} {w : World} {g n c : Nat} {r : List (Int × Int)} (h : w.ownsRow base 40 3 (.slice (some ⟨g, 0, none⟩) n c) n (dcs r)) {i : Nat} (hi : i < r.length) {j : Nat} (h6 : j < 3) {u : Value} (hj : ([.int .u32 r[i].1, .int .u64 (hiW r[i].2), .int .u64 (loW r[i].2)] : List Value)[j]? = some u) : w.cell? ⟨g, i * 3 + j, none⟩ = some u :=
 own_cells' h (by rw [show dcs r = r.flatMap (fun x => [.int .u32 x.1, .int .u64 (hiW x.2), .int .u64 (loW x.2)]) from rfl, flat_at 3 _ (fun _ => rfl) r i j hi h6, hj])
theorem sL_take {A : Type} (g : A → Int) (B : Int) (hB : 0 ≤ B) (N : Nat) (r : List A) (hN : r.length ≤ N) (h : ∀ x ∈ r, -B ≤ g x ∧ g x ≤ B) (k : Nat) : -(B * (N : Int)) ≤ sL g (r.take k) ∧ sL g (r.take k) ≤ B * (N : Int) := by
 have h1 := sL_bd g B (r.take k) (fun x hx => h x (List.mem_of_mem_take hx))
 have h2 : (((r.take k).length : Nat) : Int) ≤ (N : Int) := by rw [List.length_take]; omega
 have h3 : B * (((r.take k).length : Nat) : Int) ≤ B * (N : Int) := Int.mul_le_mul_of_nonneg_left h2 hB
 omega
theorem madd_on {a b : Int} (h0 : -170141183460469231731687303715884105727 ≤ a + b) (h1 : a + b ≤ 170141183460469231731687303715884105727) : maddV a b = a + b := by
 unfold maddV
 rw [if_pos ⟨h0, h1⟩]
theorem Zr.pa {r : List Nt} {d : List (Int × Int)} (h : Zr r d) (k : Nat) : Amt (sL (·.a) (r.take k)) := by
 have := sL_take (·.a) 1180591620717411303424 (by decide) 2097152 r h.len h.sm k
 unfold Amt
 omega
theorem Zr.pan {r : List Nt} {d : List (Int × Int)} (h : Zr r d) {k : Nat} (hk : k < r.length) : maddV (sL (·.a) (r.take k)) r[k].a = sL (·.a) (r.take (k + 1)) ∧ Amt r[k].a := by
 have h1 := sL_take (·.a) 1180591620717411303424 (by decide) 2097152 r h.len h.sm k
 have h2 := h.sm r[k] (List.getElem_mem _)
 refine ⟨?_, by unfold Amt; omega⟩
 rw [sL_next _ r hk, madd_on (by omega) (by omega)]
def gM (m : Int) (y : Nt) : Int := if y.m = m then y.a else 0
def gB (i : Int) (y : Nt) : Int := if y.i = i then y.b else 0
def gS (i : Int) (y : Nt) : Int := if y.i = i then y.s else 0
theorem Zr.gm {r : List Nt} {d : List (Int × Int)} (h : Zr r d) (m : Int) : ∀ x ∈ r, -1180591620717411303424 ≤ gM m x ∧ gM m x ≤ 1180591620717411303424 := fun x hx => by
 have := h.sm x hx
 unfold gM
 split <;> omega
theorem Zr.pm {r : List Nt} {d : List (Int × Int)} (h : Zr r d) (m : Int) (k : Nat) : Amt (sL (gM m) (r.take k)) := by
 have := sL_take (gM m) 1180591620717411303424 (by decide) 2097152 r h.len (h.gm m) k
 unfold Amt
 omega
theorem Zr.pmn {r : List Nt} {d : List (Int × Int)} (h : Zr r d) {m : Int} {k : Nat} (hk : k < r.length) (e : r[k].m = m) : maddV (sL (gM m) (r.take k)) r[k].a = sL (gM m) (r.take (k + 1)) := by
 have h1 := sL_take (gM m) 1180591620717411303424 (by decide) 2097152 r h.len (h.gm m) k
 have h2 := h.sm r[k] (List.getElem_mem _)
 rw [sL_next _ r hk, show gM m r[k] = r[k].a from if_pos e, madd_on (by omega) (by omega)]
theorem pm_no {r : List Nt} {m : Int} {k : Nat} (hk : k < r.length) (e : r[k].m ≠ m) : sL (gM m) (r.take (k + 1)) = sL (gM m) (r.take k) := by
 rw [sL_next _ r hk, show gM m r[k] = 0 from if_neg e]
 omega
theorem Zr.dsm {r : List Nt} {d : List (Int × Int)} (h : Zr r d) : ∀ x ∈ d, -2475880078570760549798248448 ≤ x.2 ∧ x.2 ≤ 2475880078570760549798248448 := fun x hx => by
 have h1 := sL_take (gM x.1) 1180591620717411303424 (by decide) 2097152 r h.len (h.gm x.1) r.length
 rw [List.take_of_length_le (Nat.le_refl _)] at h1
 have h2 := (h.du x hx).2
 have h3 : x.2 = sL (gM x.1) r := h2
 omega
theorem Zr.pd {r : List Nt} {d : List (Int × Int)} (h : Zr r d) (k : Nat) : Amt (sL (·.2) (d.take k)) := by
 have := sL_take (·.2) 2475880078570760549798248448 (by decide) 4294967296 d h.dlen h.dsm k
 unfold Amt
 omega
theorem Zr.pdn {r : List Nt} {d : List (Int × Int)} (h : Zr r d) {k : Nat} (hk : k < d.length) : maddV (sL (·.2) (d.take k)) d[k].2 = sL (·.2) (d.take (k + 1)) ∧ Amt d[k].2 := by
 have h1 := sL_take (·.2) 2475880078570760549798248448 (by decide) 4294967296 d h.dlen h.dsm k
 have h2 := h.dsm d[k] (List.getElem_mem _)
 refine ⟨?_, by unfold Amt; omega⟩
 rw [sL_next _ d hk, madd_on (by omega) (by omega)]
theorem pb_yes {r : List Nt} {i : Int} {k : Nat} (hk : k < r.length) (e : r[k].i = i) : IntKind.u64.wrap (sL (gB i) (r.take k) % 18446744073709551616 + r[k].b) = sL (gB i) (r.take (k + 1)) % 18446744073709551616 ∧ IntKind.u64.wrap (sL (gS i) (r.take k) % 18446744073709551616 + r[k].s) = sL (gS i) (r.take (k + 1)) % 18446744073709551616 := by
 rw [sL_next _ r hk, sL_next _ r hk, show gB i r[k] = r[k].b from if_pos e, show gS i r[k] = r[k].s from if_pos e, IntKind.wrap_u64, IntKind.wrap_u64]
 constructor <;> omega
theorem pb_no {r : List Nt} {i : Int} {k : Nat} (hk : k < r.length) (e : r[k].i ≠ i) : sL (gB i) (r.take (k + 1)) = sL (gB i) (r.take k) ∧ sL (gS i) (r.take (k + 1)) = sL (gS i) (r.take k) := by
 rw [sL_next _ r hk, sL_next _ r hk, show gB i r[k] = 0 from if_neg e, show gS i r[k] = 0 from if_neg e]
 constructor <;> omega
end Go.Proofs.YtlhbgaiiehljpaaGreat.Ac
