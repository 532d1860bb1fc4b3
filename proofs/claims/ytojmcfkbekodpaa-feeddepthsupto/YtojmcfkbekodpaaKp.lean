/-
  The law's copies, comparisons.
-/
import Derived.Test.YtojmcfkbekodpaaKn
import Derived.Test.YtojmcfkbekodpaaKo
namespace Go.Proofs.Ytojmcfkbekodpaa.Fd
open Go.RowKit Go.Deep
set_option linter.unusedVariables false
set_option linter.unusedSimpArgs false
set_option maxHeartbeats 4000000
set_option maxRecDepth 100000
theorem sameLevels_same (p q : Option Addr) (c d : Nat) (l : List Lv) (w : World) (h1 : Rl w p c l) (h2 : Rl w q d l) :
    Calls Try.prog 14 #[.slice p l.length c, .slice q l.length d] w fun e w' => e = .returned (.bool true) ∧ ∃ n, w' = w.drewN n := by
  have hmax := h1.max
  have hcap := h1.cap
  unfold maxLen at hmax
  have HL1 := hid h1
  have HL2 := hid h2
  obtain ⟨n, hn⟩ : ∃ n, l.length = n := ⟨_, rfl⟩
  have HN := hid hn
  rw [hn] at hcap ⊢
  have q0 : ((n : Int) != (n : Int)) = false := by simp
  clear h1 h2 hn
  go_enter Try.func14, Try.ntmps14
  go_wp2
  go_loopw [5] (fun iv wr => ∃ i m : Nat, i ≤ n ∧ iv = .int .i64 i ∧ wr = w.drewN m) (fun iv _ => n - (intOf iv).toNat)
  case atStart => exact ⟨0, 0, by omega, rfl, rfl⟩
  case round =>
    obtain ⟨i, m, hi, rfl, rfl⟩ := hrel
    by_cases hlt : i < n
    · have hil : i < l.length := by have := HN.out; omega
      obtain ⟨g1, o1, rfl, _, a0, a1, a2⟩ := HL1.out.cells hil
      obtain ⟨g2, o2, rfl, _, b0, b1, b2⟩ := HL2.out.cells hil
      obtain ⟨z, hz⟩ : ∃ z, l[i] = z := ⟨_, rfl⟩
      rw [hz] at a0 a1 a2 b0 b1 b2
      have i0 : (0 : Int) ≤ (i : Int) := by omega
      have i1 : (i : Int) < (n : Int) := by omega
      have q1 : ∀ U, (Op.equalIn 10000 71 (.agg #[.int .i64 z.pr, .int .u64 z.qt, .int .i64 z.ct]) (.agg #[.int .i64 z.pr, .int .u64 z.qt, .int .i64 z.ct])).run Try.prog U = .ok true U := fun U => by rw [eqL_at]; simp
      clear hz
      go_upto_region 6 with fail
      go_quiet (fail)
      go_wp2
      go_roundw
      case rel => exact ⟨i + 1, _, by omega, by go_num, rfl⟩
      case measure => simp [intOf]; omega
    · go_wp2
      go_ret
      exact ⟨rfl, _, rfl⟩
theorem samePicture_same (sq : Int) (p1 p2 q1 q2 : Option Addr) (c1 c2 d1 d2 : Nat) (l1 l2 : List Lv) (w : World) (h1 : Rl w p1 c1 l1) (h2 : Rl w p2 c2 l2) (h3 : Rl w q1 d1 l1) (h4 : Rl w q2 d2 l2) :
    Calls Try.prog 20 #[.agg #[.int .u64 sq, .slice p1 l1.length c1, .slice p2 l2.length c2], .agg #[.int .u64 sq, .slice q1 l1.length d1, .slice q2 l2.length d2]] w fun e w' => e = .returned (.bool true) ∧ Below w.heap.size w w' := by
  obtain ⟨R, hR⟩ : ∃ R, w.heap.size = R := ⟨_, rfl⟩
  obtain ⟨n1, hn1⟩ : ∃ n, l1.length = n := ⟨_, rfl⟩
  obtain ⟨n2, hn2⟩ : ∃ n, l2.length = n := ⟨_, rfl⟩
  obtain ⟨W, hW⟩ : ∃ W, (w.alloc (.cells #[.int .u64 sq, .slice p1 n1 c1, .slice p2 n2 c2] 49)).alloc (.cells #[.int .u64 sq, .slice q1 n1 d1, .slice q2 n2 d2] 49) = W := ⟨_, rfl⟩
  obtain ⟨hb0, x0, x1, hsz⟩ := alloc2 hR hW
  have HB := hid hb0
  have HP := hid (x0 _ _ rfl)
  have HQ := hid (x1 _ _ rfl)
  have HW := hid hW
  have HR := hid hR
  have C1 := hid (sameLevels_same p1 q1 c1 d1 l1 W (h1.on hb0) (h3.on hb0))
  have C2 := hid (fun m => sameLevels_same p2 q2 c2 d2 l2 (W.drewN m) ((h2.on hb0).on (bdrew _ _)) ((h4.on hb0).on (bdrew _ _)))
  rw [hn1] at C1
  rw [hn2] at C2
  rw [hn1, hn2]
  have q0 : (sq == sq) = true := by simp
  obtain ⟨k0, k1, k2⟩ := row3 HP.out
  obtain ⟨j0, j1, j2⟩ := row3 HQ.out
  clear h1 h2 h3 h4 hb0 x0 x1 hsz hW hR hn1 hn2
  go_enter Try.func20, Try.ntmps20
  go_upto_region 1 with fail
  rw [HW.out, HR.out]
  go_wp2_with (first | (go_at_call 14; with_reducible refine (C1.out).mono ?_; rintro e w1 ⟨rfl, m, rfl⟩; clear C1) | (go_at_call 14; with_reducible refine (C2.out _).mono ?_; rintro e w1 ⟨rfl, m2, rfl⟩))
  go_ret
  exact ⟨by simp, btr HB.out (bdrew _ _)⟩
theorem Dw.cells {b : Nat} {w : World} {p : Option Addr} {c : Nat} {l : List Dm} (h : Dw b w p c l) {i : Nat} (hi : i < l.length) : ∃ g, p = some ⟨g, 0, none⟩ ∧ g < w.heap.size ∧ w.cell? ⟨g, i * 6, none⟩ = some (.int .u64 l[i].sq) ∧ w.cell? ⟨g, i * 6 + 1, none⟩ = some (.int .i64 l[i].kd) ∧ w.cell? ⟨g, i * 6 + 2, none⟩ = some (.int .i64 l[i].sd) ∧ w.cell? ⟨g, i * 6 + 3, none⟩ = some (.int .i64 l[i].pr) ∧ w.cell? ⟨g, i * 6 + 4, none⟩ = some (.int .u64 l[i].qt) ∧ w.cell? ⟨g, i * 6 + 5, none⟩ = some (.int .i64 l[i].ct) := by
  obtain ⟨g, cur, rfl, hg, hr, _⟩ := own_at h (by omega)
  have hc := (own_cells h).2
  have go : ∀ j, j < 6 → ∀ u, (#[.int .u64 l[i].sq, .int .i64 l[i].kd, .int .i64 l[i].sd, .int .i64 l[i].pr, .int .u64 l[i].qt, .int .i64 l[i].ct] : Array Value).toList[j]? = some u → w.cell? ⟨g, i * 6 + j, none⟩ = some u := fun j hj u hu => by
    have := hc (i * 6 + j) u (by rw [dvc_get hi j hj]; exact hu)
    rw [Addr.add_lit, Nat.zero_add] at this
    exact this
  exact ⟨g, rfl, row_lt hr, go 0 (by omega) _ rfl, go 1 (by omega) _ rfl, go 2 (by omega) _ rfl, go 3 (by omega) _ rfl, go 4 (by omega) _ rfl, go 5 (by omega) _ rfl⟩
end Go.Proofs.Ytojmcfkbekodpaa.Fd
namespace Go.Proofs.Ytojmcfkbekodpaa.Fd
open Go.RowKit Go.Deep
set_option linter.unusedVariables false
set_option linter.unusedSimpArgs false
set_option maxHeartbeats 4000000
set_option maxRecDepth 100000
theorem Kp.grown {F : Nat → Prop} {w W U : World} {r : Option Nat} (h : Kp F w W) (hg : W.grownBy U r) (hr : ∀ j, r = some j → F j) : Kp F w U :=
  ⟨hg.os.trans h.os, hg.tape.trans h.tape, hg.output.trans h.output, Nat.le_trans h.size hg.size, fun g hgl hF => (hg.block g (Nat.lt_of_lt_of_le hgl h.size) (fun e => hF (hr g e.symm))).trans (h.obj g hgl hF)⟩
theorem rdl_new (U : World) (x : Lv) : ∀ ad, some (⟨U.heap.size, 0, none⟩ : Addr) = some ad → ∀ j u, (lvc [x])[j]? = some u → (U.alloc (.cells #[.int .i64 x.pr, .int .u64 x.qt, .int .i64 x.ct] 71)).cell? (ad.add j) = some u := by
  intro ad e j u hj
  injection e with e
  subst e
  rw [Addr.add_lit, Nat.zero_add, row_cell (World.alloc_heap_new _ _)]
  simpa [lvc] using hj
theorem own_blk {base : Nat} {w : World} {e : TypeId} {size n c : Nat} {p : Option Addr} {xs : List Value} (h : w.ownsRow base e size (.slice p n c) n xs) {j : Nat} (hj : (Value.slice p n c).ownBlock = some j) : OfP p j := by
  obtain ⟨_, ⟨e, _⟩ | ⟨g', c', cur, e, _⟩⟩ := h
  · rw [e] at hj; cases hj
  · have e5 := (Value.slice.inj e).1
    rw [e] at hj; cases hj
    exact e5
/-- what stands while a picture is written over. -/
structure Wp (w : World) (q1 : Option Addr) (n1 d1 : Nat) (q2 : Option Addr) (n2 d2 : Nat) (R : Nat) (sq : Int) (b : Nat) (wr : World) : Prop where
  o1 : ∃ xs, wr.ownsRow b 71 3 (.slice q1 n1 d1) n1 xs
  o2 : ∃ xs, wr.ownsRow b 71 3 (.slice q2 n2 d2) n2 xs
  r : wr.heap[R]? = some (.cells #[.int .u64 sq, .slice q1 n1 d1, .slice q2 n2 d2] 49 (0, 0))
  k : Kp (fun g => OfP q1 g ∨ OfP q2 g) w wr
theorem Wp.set1 {w : World} {q1 : Option Addr} {n1 d1 : Nat} {q2 : Option Addr} {n2 d2 : Nat} {R : Nat} {sq : Int} {b : Nat} {wr : World} (h : Wp w q1 n1 d1 q2 n2 d2 R sq b wr) (ap : ∀ g, OfP q1 g → ¬ OfP q2 g) {g k : Nat} (hg : OfP q1 g) (hk : k < n1 * 3) (v : Value) : Wp w q1 n1 d1 q2 n2 d2 R sq b (wr.setCell ⟨g, k, none⟩ v) := by
  obtain ⟨xs, hx⟩ := h.o1
  obtain ⟨ys, hy⟩ := h.o2
  subst hg
  obtain ⟨cur, ec⟩ := own_ty hx rfl
  exact ⟨⟨_, own_setc hx hk⟩, ⟨ys, own_same hy (fun j hj => heap_setCell_other _ _ _ _ (fun e => ap g (OfP.mk g) (by have e' : j = g := e; rw [← e']; exact own_blk hy hj)))⟩, set_oth _ h.r (row_ne h.r ec (by decide)), h.k.trans (Kp.set _ _ _ _) (fun j _ e => .inl (by rw [show j = g from e]; exact OfP.mk g))⟩
theorem Wp.set2 {w : World} {q1 : Option Addr} {n1 d1 : Nat} {q2 : Option Addr} {n2 d2 : Nat} {R : Nat} {sq : Int} {b : Nat} {wr : World} (h : Wp w q1 n1 d1 q2 n2 d2 R sq b wr) (ap : ∀ g, OfP q1 g → ¬ OfP q2 g) {g k : Nat} (hg : OfP q2 g) (hk : k < n2 * 3) (v : Value) : Wp w q1 n1 d1 q2 n2 d2 R sq b (wr.setCell ⟨g, k, none⟩ v) := by
  obtain ⟨xs, hx⟩ := h.o1
  obtain ⟨ys, hy⟩ := h.o2
  subst hg
  obtain ⟨cur, ec⟩ := own_ty hy rfl
  exact ⟨⟨xs, own_same hx (fun j hj => heap_setCell_other _ _ _ _ (fun e => ap g (by have e' : j = g := e; rw [← e']; exact own_blk hx hj) (OfP.mk g)))⟩, ⟨_, own_setc hy hk⟩, set_oth _ h.r (row_ne h.r ec (by decide)), h.k.trans (Kp.set _ _ _ _) (fun j _ e => .inr (by rw [show j = g from e]; exact OfP.mk g))⟩
theorem Wp.new {w : World} {q1 : Option Addr} {n1 d1 : Nat} {q2 : Option Addr} {n2 d2 : Nat} {R : Nat} {sq : Int} {b : Nat} {wr U : World} (h : Wp w q1 n1 d1 q2 n2 d2 R sq b wr) (hb : Below wr.heap.size wr U) : Wp w q1 n1 d1 q2 n2 d2 R sq b U := by
  obtain ⟨xs, hx⟩ := h.o1
  obtain ⟨ys, hy⟩ := h.o2
  exact ⟨⟨xs, own_on hx hb⟩, ⟨ys, own_on hy hb⟩, row_on h.r hb, h.k.trans (Kp.of (fun _ => False) hb) (fun _ _ h => h.elim)⟩
theorem newP_no (d : Int) (h : ¬ (1 ≤ d ∧ d ≤ 64)) (w : World) : Calls Try.prog 8 #[.int .i64 d] w fun e w' => e = .returned (.tuple #[.pointer none, .int .i64 1]) ∧ Below w.heap.size w w' := by
  by_cases h1 : d < 1
  · go_enter Try.func8, Try.ntmps8
    go_wp2
    go_ret2
    exact ⟨rfl, Below.refl _ _⟩
  · have h2 : 64 < d := by omega
    have h1' : decide (d < 1) = false := by simpa using h1
    clear h h1
    go_enter Try.func8, Try.ntmps8
    go_wp2
    go_ret2
    exact ⟨rfl, Below.refl _ _⟩
theorem newP_ok (d : Nat) (h1 : 1 ≤ d) (h2 : d ≤ 64) (w : World) : Calls Try.prog 8 #[.int .i64 d] w fun e w' => ∃ B, e = .returned (.tuple #[.pointer (some ⟨B, 0, none⟩), .int .i64 0]) ∧ Pb w' B d 0 none 0 [] none 0 [] ∧ w.heap.size ≤ B ∧ Below w.heap.size w w' := by
  have a1 : decide ((d : Int) < 1) = false := by simp; omega
  have a2 : decide (64 < (d : Int)) = false := by simp; omega
  have a3 : decide (64 < d) = false := by simp; omega
  have a4 : decide (d < 1) = false := by simp; omega
  have HP := hid (show Pb (w.alloc (.cells #[.int .i64 d, .int .u64 0, .slice none 0 0, .slice none 0 0] 73)) w.heap.size d 0 none 0 [] none 0 [] from ⟨World.alloc_heap_new _ _, Rl.empty _, Rl.empty _, Lok.nil _, Lok.nil _, by simp, by simp, h1, h2, by omega⟩)
  go_enter Try.func8, Try.ntmps8
  go_wp2
  go_ret2
  exact ⟨w.heap.size, rfl, HP.out, Nat.le_refl _, ball _ _⟩
end Go.Proofs.Ytojmcfkbekodpaa.Fd
namespace Go.Proofs.Ytojmcfkbekodpaa.Fd
open Go.RowKit Go.Deep
set_option linter.unusedVariables false
set_option linter.unusedSimpArgs false
set_option maxHeartbeats 4000000
set_option maxRecDepth 100000
/-- what is told, the error, the levels and the number behind it. -/
def pM (d : Nat) (sq : Int) (l1 l2 lb ls : List Lv) (le : List Ev) : List Dm := if pubOk lb ls le = true then nmb sq (pubT d l1 l2 lb ls le) else []
def pE (lb ls : List Lv) (le : List Ev) : Int := if pubOk lb ls le = true then 0 else 1
def pA (d : Nat) (l1 lb ls : List Lv) (le : List Ev) : List Lv := if pubOk lb ls le = true then lb.take d else l1
def pB (d : Nat) (l2 lb ls : List Lv) (le : List Ev) : List Lv := if pubOk lb ls le = true then ls.take d else l2
def pS (d : Nat) (sq : Int) (l1 l2 lb ls : List Lv) (le : List Ev) : Int := if pubOk lb ls le = true then uw (sq + (pubT d l1 l2 lb ls le).length) else sq
/-- where a slice's block comes from. -/
def Fr (n : Nat) (p p' : Option Addr) : Prop := ∀ g, OfP p' g → OfP p g ∨ n ≤ g
theorem Fr.refl (n : Nat) (p : Option Addr) : Fr n p p := fun _ h => .inl h
theorem Fr.mono {n m : Nat} {p p' : Option Addr} (h : Fr n p p') (hm : m ≤ n) : Fr m p p' := fun g hg => (h g hg).imp _root_.id (fun e => Nat.le_trans hm e)
theorem Lo.fr {b : Nat} {w' : World} {p p' : Option Addr} {c : Nat} {l : List Lv} (h : Lo b w' p' c l) : Fr b p p' := fun g hg => .inr (h.ge hg).1
theorem Lo.ty {b : Nat} {w : World} {p : Option Addr} {c : Nat} {l : List Lv} (h : Lo b w p c l) {g : Nat} (hg : OfP p g) : ∃ cur, w.heap[g]? = some (.cells cur 71 (0, 0)) := by subst hg; exact own_ty h rfl
theorem Lo.kept {b : Nat} {w w' : World} {F : Nat → Prop} {p : Option Addr} {c : Nat} {l : List Lv} (h : Lo b w p c l) (hk : Kp F w w') (hF : ∀ g, OfP p g → ¬ F g) : Lo b w' p c l :=
  own_same h (fun j hj => hk.obj j (by obtain ⟨cc, ec⟩ := own_ty h hj; exact row_lt ec) (hF j (own_blk h hj)))
theorem Dw.ty {b : Nat} {w : World} {p : Option Addr} {c : Nat} {l : List Dm} (h : Dw b w p c l) {g : Nat} (hg : OfP p g) : ∃ cur, w.heap[g]? = some (.cells cur 47 (0, 0)) := by subst hg; exact own_ty h rfl
theorem Dw.kept {b : Nat} {w w' : World} {F : Nat → Prop} {p : Option Addr} {c : Nat} {l : List Dm} (h : Dw b w p c l) (hk : Kp F w w') (hF : ∀ g, OfP p g → ¬ F g) : Dw b w' p c l :=
  own_same h (fun j hj => hk.obj j (by obtain ⟨cc, ec⟩ := own_ty h hj; exact row_lt ec) (hF j (own_blk h hj)))
theorem publish_all (B d : Nat) (sq : Int) (p1 p2 pb ps pe : Option Addr) (c1 c2 cb cs ce : Nat) (l1 l2 lb ls : List Lv) (le : List Ev) (w : World) (h : Pb w B d sq p1 c1 l1 p2 c2 l2) (hb : Rl w pb cb lb) (hs : Rl w ps cs ls) (he : Re w pe ce le) (hl : le.length * 104 ≤ 140737488355328) (o1 : Lo 0 w p1 c1 l1) (o2 : Lo 0 w p2 c2 l2) :
    Calls Try.prog 11 #[.pointer (some ⟨B, 0, none⟩), .slice pb lb.length cb, .slice ps ls.length cs, .slice pe le.length ce] w fun e w' => ∃ q dd q1 e1 q2 e2, e = .returned (.tuple #[.slice q (pM d sq l1 l2 lb ls le).length dd, .int .i64 (pE lb ls le)]) ∧ Dw w.heap.size w' q dd (pM d sq l1 l2 lb ls le) ∧ Pb w' B d (pS d sq l1 l2 lb ls le) q1 e1 (pA d l1 lb ls le) q2 e2 (pB d l2 lb ls le) ∧ Kp (fun b => b = B) w w' ∧ Lo 0 w' q1 e1 (pA d l1 lb ls le) ∧ Lo 0 w' q2 e2 (pB d l2 lb ls le) ∧ Fr w.heap.size p1 q1 ∧ Fr w.heap.size p2 q2 := by
  cases hok : pubOk lb ls le with
  | false =>
    refine (publish_no B d sq p1 p2 pb ps pe c1 c2 cb cs ce l1 l2 lb ls le w h hb hs he hl hok).mono ?_
    rintro e w' ⟨rfl, hw⟩
    refine ⟨none, 0, p1, c1, p2, c2, ?_, ?_, ?_, Kp.of _ hw, ?_, ?_, Fr.refl _ _, Fr.refl _ _⟩
    · simp [pM, pE, hok]
    · simp only [pM, hok]; exact Dw.nil0 _ _
    · simp only [pS, pA, pB, hok]; exact h.on hw
    · simp only [pA, hok]; exact o1.on hw
    · simp only [pB, hok]; exact o2.on hw
  | true =>
    refine (publish_ok B d sq p1 p2 pb ps pe c1 c2 cb cs ce l1 l2 lb ls le w h hb hs he hl hok).mono ?_
    rintro e w' ⟨q, dd, q1, e1, q2, e2, rfl, hd, hr, ha, hc, hk⟩
    have hok' := hok
    unfold pubOk at hok'
    simp only [Bool.and_eq_true] at hok'
    refine ⟨q, dd, q1, e1, q2, e2, ?_, ?_, ?_, hk, ?_, ?_, ha.fr, hc.fr⟩
    · simp [pM, pE, hok, nmb_len]
    · simp only [pM, hok, if_true]; exact hd
    · simp only [pS, pA, pB, hok, if_true]
      exact ⟨hr, ha.rl, hc.rl, ((lok_iff 1 lb).1 hok'.2.1).take d, ((lok_iff 2 ls).1 hok'.2.2).take d, by have := h.d2; simp; omega, by have := h.d2; simp; omega, h.d1, h.d2, uw_rng _⟩
    · simp only [pA, hok, if_true]; exact ha.base (Nat.zero_le _)
    · simp only [pB, hok, if_true]; exact hc.base (Nat.zero_le _)
end Go.Proofs.Ytojmcfkbekodpaa.Fd
