/-
  Publish, whatever it is told: both say the same.
-/
import Derived.Test.YtiphgfghdbmlcaaFeZ
import Derived.Test.YtiphgfghdbmlcaaFfB
namespace Go.Proofs.Ytiphgfghdbmlcaa
open Go.RowKit Go.Deep
set_option linter.unusedVariables false
set_option linter.unusedSimpArgs false
set_option maxHeartbeats 4000000
set_option maxRecDepth 100000
/-- what is told, the error, the levels and the number behind it. -/
def pM (d : Nat) (sq : Int) (l1 l2 lb ls : List Lv) (le : List Ev) : List Dm := if pubOk lb ls le = true then nmb sq (pubT d l1 l2 lb ls le) else []
def pE (lb ls : List Lv) (le : List Ev) : Int := if pubOk lb ls le = true then 0 else 1
def pA (d : Nat) (l1 lb ls : List Lv) (le : List Ev) : List Lv := if pubOk lb ls le = true then lb.take d else l1
def pB (d : Nat) (l2 lb ls : List Lv) (le : List Ev) : List Lv := if pubOk lb ls le = true then ls.take d else l2
def pS (d : Nat) (sq : Int) (l1 l2 lb ls : List Lv) (le : List Ev) : Int := if pubOk lb ls le = true then uw (sq + (pubT d l1 l2 lb ls le).length) else sq
/-- where a slice's block comes from. -/
def Fr (n : Nat) (p p' : Option Addr) : Prop := ∀ g, OfP p' g → OfP p g ∨ n ≤ g
theorem Fr.refl (n : Nat) (p : Option Addr) : Fr n p p := fun _ h => .inl h
theorem Fr.mono {n m : Nat} {p p' : Option Addr} (h : Fr n p p') (hm : m ≤ n) : Fr m p p' := fun g hg => (h g hg).imp _root_.id (fun e => Nat.le_trans hm e)
theorem Lo.fr {b : Nat} {w' : World} {p p' : Option Addr} {c : Nat} {l : List Lv} (h : Lo b w' p' c l) : Fr b p p' := fun g hg => .inr (h.ge hg).1
theorem Lo.ty {b : Nat} {w : World} {p : Option Addr} {c : Nat} {l : List Lv} (h : Lo b w p c l) {g : Nat} (hg : OfP p g) : ∃ cur, w.heap[g]? = some (.cells cur 89 (0, 0)) := by subst hg; exact own_ty h rfl
theorem Lo.kept {b : Nat} {w w' : World} {F : Nat → Prop} {p : Option Addr} {c : Nat} {l : List Lv} (h : Lo b w p c l) (hk : Kp F w w') (hF : ∀ g, OfP p g → ¬ F g) : Lo b w' p c l :=
  own_same h (fun j hj => hk.obj j (by obtain ⟨cc, ec⟩ := own_ty h hj; exact row_lt ec) (hF j (own_blk h hj)))
theorem Dw.ty {b : Nat} {w : World} {p : Option Addr} {c : Nat} {l : List Dm} (h : Dw b w p c l) {g : Nat} (hg : OfP p g) : ∃ cur, w.heap[g]? = some (.cells cur 48 (0, 0)) := by subst hg; exact own_ty h rfl
theorem Dw.kept {b : Nat} {w w' : World} {F : Nat → Prop} {p : Option Addr} {c : Nat} {l : List Dm} (h : Dw b w p c l) (hk : Kp F w w') (hF : ∀ g, OfP p g → ¬ F g) : Dw b w' p c l :=
  own_same h (fun j hj => hk.obj j (by obtain ⟨cc, ec⟩ := own_ty h hj; exact row_lt ec) (hF j (own_blk h hj)))
theorem publish_all (B d : Nat) (sq : Int) (p1 p2 pb ps pe : Option Addr) (c1 c2 cb cs ce : Nat) (l1 l2 lb ls : List Lv) (le : List Ev) (w : World) (h : Pb w B d sq p1 c1 l1 p2 c2 l2) (hb : Rl w pb cb lb) (hs : Rl w ps cs ls) (he : Re w pe ce le) (hl : le.length * 104 ≤ 140737488355328) (o1 : Lo 0 w p1 c1 l1) (o2 : Lo 0 w p2 c2 l2) :
    Calls Try.prog 10 #[.pointer (some ⟨B, 0, none⟩), .slice pb lb.length cb, .slice ps ls.length cs, .slice pe le.length ce] w fun e w' => ∃ q dd q1 e1 q2 e2, e = .returned (.tuple #[.slice q (pM d sq l1 l2 lb ls le).length dd, .int .i64 (pE lb ls le)]) ∧ Dw w.heap.size w' q dd (pM d sq l1 l2 lb ls le) ∧ Pb w' B d (pS d sq l1 l2 lb ls le) q1 e1 (pA d l1 lb ls le) q2 e2 (pB d l2 lb ls le) ∧ Kp (fun b => b = B) w w' ∧ Lo 0 w' q1 e1 (pA d l1 lb ls le) ∧ Lo 0 w' q2 e2 (pB d l2 lb ls le) ∧ Fr w.heap.size p1 q1 ∧ Fr w.heap.size p2 q2 := by
  cases hok : pubOk lb ls le with
  | false =>
    refine (publish_no B d sq p1 p2 pb ps pe c1 c2 cb cs ce l1 l2 lb ls le w h hb hs he hl hok).mono ?_
    rintro e w' ⟨rfl, hw⟩
    refine ⟨none, 0, p1, c1, p2, c2, ?_, ?_, ?_, Kp.of _ hw, ?_, ?_, Fr.refl _ _, Fr.refl _ _⟩
    · simp [pM, pE, hok]
    · simp only [pM, hok]; exact Dw.nil0 _ _
    · simp only [pS, pA, pB, hok]; exact h.on hw
    · simp only [pA, hok]; exact o1.on hw
    · simp only [pB, hok]; exact o2.on hw
  | true =>
    refine (publish_ok B d sq p1 p2 pb ps pe c1 c2 cb cs ce l1 l2 lb ls le w h hb hs he hl hok).mono ?_
    rintro e w' ⟨q, dd, q1, e1, q2, e2, rfl, hd, hr, ha, hc, hk⟩
    have hok' := hok
    unfold pubOk at hok'
    simp only [Bool.and_eq_true] at hok'
    refine ⟨q, dd, q1, e1, q2, e2, ?_, ?_, ?_, hk, ?_, ?_, ha.fr, hc.fr⟩
    · simp [pM, pE, hok, nmb_len]
    · simp only [pM, hok, if_true]; exact hd
    · simp only [pS, pA, pB, hok, if_true]
      exact ⟨hr, ha.rl, hc.rl, ((lok_iff 1 lb).1 hok'.2.1).take d, ((lok_iff 2 ls).1 hok'.2.2).take d, by have := h.d2; simp; omega, by have := h.d2; simp; omega, h.d1, h.d2, uw_rng _⟩
    · simp only [pA, hok, if_true]; exact ha.base (Nat.zero_le _)
    · simp only [pB, hok, if_true]; exact hc.base (Nat.zero_le _)
theorem rpublish_all (d : Nat) (sq : Int) (p1 p2 pb ps pe : Option Addr) (c1 c2 cb cs ce : Nat) (l1 l2 lb ls : List Lv) (le : List Ev) (w : World) (h : Rp w d sq p1 c1 l1 p2 c2 l2) (hb : Rl w pb cb lb) (hs : Rl w ps cs ls) (he : Re w pe ce le) (hl : le.length * 104 ≤ 140737488355328) (o1 : Lo 0 w p1 c1 l1) (o2 : Lo 0 w p2 c2 l2) :
    Calls Try.prog 11 #[.agg #[.int .i64 d, .int .u64 sq, .slice p1 l1.length c1, .slice p2 l2.length c2], .slice pb lb.length cb, .slice ps ls.length cs, .slice pe le.length ce] w fun e w' => ∃ q dd q1 e1 q2 e2, e = .returned (.tuple #[.agg #[.int .i64 d, .int .u64 (pS d sq l1 l2 lb ls le), .slice q1 (pA d l1 lb ls le).length e1, .slice q2 (pB d l2 lb ls le).length e2], .slice q (pM d sq l1 l2 lb ls le).length dd, .int .i64 (pE lb ls le)]) ∧ Dw w.heap.size w' q dd (pM d sq l1 l2 lb ls le) ∧ Below w.heap.size w w' ∧ Lo 0 w' q1 e1 (pA d l1 lb ls le) ∧ Lo 0 w' q2 e2 (pB d l2 lb ls le) ∧ Fr w.heap.size p1 q1 ∧ Fr w.heap.size p2 q2 := by
  cases hv : (lok 1 lb && lok 2 ls) with
  | false =>
    have hok : pubOk lb ls le = false := by unfold pubOk; rw [hv]; simp
    refine (rpublish_lev d sq p1 p2 pb ps pe l1.length l2.length c1 c2 cb cs ce lb ls le w hb hs hv).mono ?_
    rintro e w' ⟨rfl, hw⟩
    refine ⟨none, 0, p1, c1, p2, c2, ?_, ?_, hw, ?_, ?_, Fr.refl _ _, Fr.refl _ _⟩
    · simp [pM, pE, pS, pA, pB, hok]
    · simp only [pM, hok]; exact Dw.nil0 _ _
    · simp only [pA, hok]; exact o1.on hw
    · simp only [pB, hok]; exact o2.on hw
  | true =>
    refine (rpublish_any d sq p1 p2 pb ps pe c1 c2 cb cs ce l1 l2 lb ls le w h hb hs he hl hv).mono ?_
    rintro e w' ⟨hw, ⟨ht, rfl⟩ | ⟨ht, q, dd, q1, e1, q2, e2, rfl, hd, ha, hc⟩⟩
    · have hok : pubOk lb ls le = false := by unfold pubOk; rw [ht]; simp
      refine ⟨none, 0, p1, c1, p2, c2, ?_, ?_, hw, ?_, ?_, Fr.refl _ _, Fr.refl _ _⟩
      · simp [pM, pE, pS, pA, pB, hok]
      · simp only [pM, hok]; exact Dw.nil0 _ _
      · simp only [pA, hok]; exact o1.on hw
      · simp only [pB, hok]; exact o2.on hw
    · have hok : pubOk lb ls le = true := by unfold pubOk; rw [ht, hv]; simp
      refine ⟨q, dd, q1, e1, q2, e2, ?_, ?_, hw, ?_, ?_, ha.fr, hc.fr⟩
      · simp [pM, pE, pS, pA, pB, hok, nmb_len]
      · simp only [pM, hok, if_true]; exact hd
      · simp only [pA, hok, if_true]; exact ha.base (Nat.zero_le _)
      · simp only [pB, hok, if_true]; exact hc.base (Nat.zero_le _)
end Go.Proofs.Ytiphgfghdbmlcaa
