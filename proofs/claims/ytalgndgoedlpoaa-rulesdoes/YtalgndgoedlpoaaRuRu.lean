/-
  RuRu
-/
import Derived.Test.YtalgndgoedlpoaaRuRo
import Derived.Test.YtalgndgoedlpoaaRuRs
import Derived.Test.YtalgndgoedlpoaaRuRt
import Derived.Test.YtalgndgoedlpoaaRuRm
import Derived.Test.YtalgndgoedlpoaaRuRn
namespace Go.Proofs.Ytalgndgoedlpoaa
open Go.RowKit Go.Deep Go.Shelf
set_option linter.unusedVariables false
set_option linter.unusedSimpArgs false
set_option maxHeartbeats 8000000
set_option maxRecDepth 100000
theorem dstep_any (d : Db) (o : Or) (s q : Int) (x : Or) (r : List Or) (p : Option Addr) (n c : Nat) (es : List Ev) (w : World) (hs : s = 1 ∨ s = 2) (h : Dm w d) (hl : d.os (oth s) = x :: r) (hx : OrOk x) (hpk : x.pk = 0 → x.hi = 0) (hq : 0 < q) (hq1 : q < 4294967296) (hr : ∀ y ∈ r, y.id ≠ x.id) (hm : 0 ≤ d.meet ∧ d.meet ≤ 3) (he : es.length = n) (hv : Rv w (.slice p n c) es) (hn : n ≤ 17179869182) :
  Calls Try.prog 68 #[.agg #[.int .i64 d.cap, .int .i64 d.meet, .slice d.p1 d.o1.length d.c1, .slice d.p2 d.o2.length d.c2, .int .u64 d.high, .int .u64 d.seq, .slice p n c], .agg #[.int .u64 o.id, .int .u64 q, .int .u64 o.pk, .int .u32 o.mb, .int .i64 s, .int .i64 o.ty, .int .i64 o.pr]] w fun e w' => ∃ d2 p2 n2 c2, e = .returned (.tuple #[.agg #[.int .i64 d2.cap, .int .i64 d2.meet, .slice d2.p1 d2.o1.length d2.c1, .slice d2.p2 d2.o2.length d2.c2, .int .u64 d2.high, .int .u64 d2.seq, .slice p2 n2 c2], .agg #[.int .u64 o.id, .int .u64 (stD d.seq d.meet o s q x r).2.2.1, .int .u64 o.pk, .int .u32 o.mb, .int .i64 s, .int .i64 o.ty, .int .i64 o.pr]]) ∧ (Dm w' d2 ∧ Nwl w.heap.size d d2) ∧ (es ++ (stD d.seq d.meet o s q x r).2.1).length = n2 ∧ Rv w' (.slice p2 n2 c2) (es ++ (stD d.seq d.meet o s q x r).2.1) ∧ d2.os (oth s) = (stD d.seq d.meet o s q x r).1 ∧ d2.os s = d.os s ∧ d2.cap = d.cap ∧ d2.meet = d.meet ∧ d2.high = d.high ∧ d2.seq = (stD d.seq d.meet o s q x r).2.2.2 ∧ Below w.heap.size w w' := by
 have hid3 : x.hi = 0 ∨ (0 < x.hi ∧ x.hi < x.pk) ∨ (0 < x.hi ∧ x.pk ≤ x.hi) := by have := hx; unfold OrOk at this; omega
 obtain hwy | ⟨h1, h2, h3⟩ | ⟨h1, h2, h3⟩ | ⟨h1, h2, h3⟩ : (x.mb = 0 ∨ (x.mb ≠ 0 ∧ x.mb ≠ o.mb) ∨ (x.mb ≠ 0 ∧ x.mb = o.mb ∧ d.meet = 0)) ∨ (x.mb ≠ 0 ∧ x.mb = o.mb ∧ d.meet = 1) ∨ (x.mb ≠ 0 ∧ x.mb = o.mb ∧ d.meet = 2) ∨ (x.mb ≠ 0 ∧ x.mb = o.mb ∧ d.meet = 3) := by omega
 ·rcases Int.lt_trichotomy q x.vi with hc | hc | hc
  ·exact dstep_tB d o s q x r p n c es w hs h hl hx hpk hq hq1 hr hm he hv hn hwy hc
  ·rcases hid3 with hh | hh | hh
   ·exact dstep_tC0 d o s q x r p n c es w hs h hl hx hpk hq hq1 hr hm he hv hn hwy hc hh
   ·exact dstep_tCl d o s q x r p n c es w hs h hl hx hpk hq hq1 hr hm he hv hn hwy hc hh
   ·exact dstep_tCg d o s q x r p n c es w hs h hl hx hpk hq hq1 hr hm he hv hn hwy hc hh
  ·rcases hid3 with hh | hh | hh
   ·exact dstep_tA0 d o s q x r p n c es w hs h hl hx hpk hq hq1 hr hm he hv hn hwy hc hh
   ·exact dstep_tAl d o s q x r p n c es w hs h hl hx hpk hq hq1 hr hm he hv hn hwy hc hh
   ·exact dstep_tAg d o s q x r p n c es w hs h hl hx hpk hq hq1 hr hm he hv hn hwy hc hh
 ·exact dstep_m1 d o s q x r p n c es w hs h hl hx hpk hq hq1 hr hm he hv hn h1 h2 h3
 ·exact dstep_m2 d o s q x r p n c es w hs h hl hx hpk hq hq1 hr hm he hv hn h1 h2 h3
 ·exact dstep_m3 d o s q x r p n c es w hs h hl hx hpk hq hq1 hr hm he hv hn h1 h2 h3
/-- no order without a peak hides anything. -/
def Pk (b : Bs) : Prop := ∀ S, S = 1 ∨ S = 2 → ∀ y ∈ b.sl S, y.2.pk = 0 → y.2.hi = 0
theorem Pk.both {b : Bs} {s : Int} (hs : s = 1 ∨ s = 2) (h1 : ∀ y ∈ b.sl s, y.2.pk = 0 → y.2.hi = 0) (h2 : ∀ y ∈ b.sl (oth s), y.2.pk = 0 → y.2.hi = 0) : Pk b := by
 intro S hS y hy hp
 rcases hs with rfl | rfl <;> rcases hS with rfl | rfl
 ·exact h1 y hy hp
 ·exact h2 y hy hp
 ·exact h2 y hy hp
 ·exact h1 y hy hp
theorem shn_pk {x : Or} (h : x.pk = 0 → x.hi = 0) (m : Int) (hp : (x.less m).shn.pk = 0) : (x.less m).shn.hi = 0 := by
 have hp' : x.pk = 0 := hp
 show (shw x.pk x.hi).2 = 0
 unfold shw
 rw [if_pos (.inl hp')]
theorem Pk.met {b : Bs} {o : Or} {s q : Int} {f : Nat} {x : Or} {r : LO} (h : Pk b) (hs : s = 1 ∨ s = 2) (hl : b.sl (oth s) = (f, x) :: r) : Pk (mtB b o s q f x r).1 := by
 have hos := oth_side hs
 have hxr : ∀ y ∈ (f, x) :: r, y.2.pk = 0 → y.2.hi = 0 := fun y hy => h (oth s) hos y (by rw [hl]; exact hy)
 refine Pk.both hs (fun y hy => ?_) (fun y hy => ?_)
 ·rw [(mtB_own (o := o) (q := q) (f := f) (x := x) (r := r) hs).1] at hy
  exact h s hs y hy
 ·have hy2 : y ∈ (f, x) :: r ∨ y ∈ trl (oth s) f x r (min q x.vi) := by
   unfold mtB at hy
   have hdel : (b.del (oth s) 0).sl (oth s) = r := by
    unfold Bs.del
    rw [hl]
    rcases hs with rfl | rfl <;> rfl
   split at hy
   ·right
    have e : ∀ (b1 : Bs) (l : LO), (b1.put (oth s) (b.sp (oth s)) (b.sc (oth s)) l).sl (oth s) = l := fun b1 l => by rcases hs with rfl | rfl <;> rfl
    rw [e] at hy
    exact hy
   ·split at hy
    ·left
     have : y ∈ b.sl (oth s) := hy
     rw [hl] at this
     exact this
    ·split at hy
     ·left
      have : y ∈ (b.del (oth s) 0).sl (oth s) := hy
      rw [hdel] at this
      exact List.mem_cons_of_mem _ this
     ·left
      have : y ∈ (b.del (oth s) 0).sl (oth s) := hy
      rw [hdel] at this
      exact List.mem_cons_of_mem _ this
  rcases hy2 with hy2 | hy2
  ·exact hxr y hy2
  ·unfold trl at hy2
   split at hy2
   ·rcases List.mem_cons.1 hy2 with rfl | hy2
    ·exact fun hp => hxr (f, x) (by simp) hp
    ·exact hxr y (List.mem_cons_of_mem _ hy2)
   ·split at hy2
    ·exact hxr y (List.mem_cons_of_mem _ hy2)
    ·rcases List.mem_cons.1 ((agn_perm (oth s) _).mem_iff.1 hy2) with rfl | hy2
     ·exact fun hp => shn_pk (hxr (f, x) (by simp)) _ hp
     ·exact hxr y (List.mem_cons_of_mem _ hy2)
theorem vb_ne {b : Bs} (v : Vb b) {s : Int} (hs : s = 1 ∨ s = 2) {f : Nat} {x : Or} {r : LO} (hl : b.sl (oth s) = (f, x) :: r) : ∀ y ∈ osl r, y.id ≠ x.id := by
 intro y hy
 obtain ⟨z, hz, rfl⟩ := List.mem_map.1 hy
 have hi := v.ids
 unfold Ids at hi
 rw [List.map_append, List.nodup_append] at hi
 have key : ((b.sl (oth s)).map (·.2.id)).Nodup := by
  rcases hs with rfl | rfl
  ·exact hi.2.1
  ·exact hi.1
 rw [hl, List.map_cons, List.nodup_cons] at key
 intro e
 exact key.1 (List.mem_map.2 ⟨z, hz, e⟩)
end Go.Proofs.Ytalgndgoedlpoaa
