/-
  CdF
-/
import Derived.Test.YtegdhffejmbakaaCdE
namespace Go.Proofs.Ytegdhffejmbakaa.Ac
open Go.RowKit Go.Deep Go.Maps BigM MonM TexM ParM Go.Proofs.Ytegdhffejmbakaa
set_option linter.unusedVariables false
set_option linter.unusedSimpArgs false
set_option maxHeartbeats 8000000
set_option maxRecDepth 100000
attribute [local go_sem ↓] Go.wp_at_zero Go.wp_at_succ
/-- what a member owes, by words. -/
structure Ow where
  m : Int
  h : Int
  l : Int
def Ow.ok (x : Ow) : Prop := U32 x.m ∧ (0 ≤ x.h ∧ x.h < 18446744073709551616) ∧ (0 ≤ x.l ∧ x.l < 18446744073709551616)
def orow (x : Ow) : Array Value := #[.int .u32 x.m, .int .u64 x.h, .int .u64 x.l]
def Oz (w : World) (q : Option Addr) (l : List Ow) : Prop := ∀ i (h : i < l.length), ∃ b off, q = some ⟨b, off, none⟩ ∧ b < w.heap.size ∧ ∀ j, j < 3 → w.cell? ⟨b, off + i * 3 + j, none⟩ = (orow l[i])[j]?
def nce (x : Nt) : List Value := [.int .u32 x.m, .int .u32 x.i, .int .u64 x.b, .int .u64 x.s, .int .u64 (hiW x.a), .int .u64 (loW x.a)]
def ncs (l : List Nt) : List Value := l.flatMap nce
def ece (x : Ne) : List Value := [.int .u32 x.m, .int .u32 x.i, .int .u64 x.bo, .int .u64 x.so, .bool x.b, .slice x.p x.n x.c]
def ecs (l : List Ne) : List Value := l.flatMap ece
def emt (w : World) (l : List Ne) : Prop := ∀ x ∈ l, Dm.Am w (.agg #[.bool x.b, .slice x.p x.n x.c]) x.a
theorem ncs_snoc (l : List Nt) (x : Nt) : ncs (l ++ [x]) = ncs l ++ nce x := by simp [ncs]
theorem ecs_snoc (l : List Ne) (x : Ne) : ecs (l ++ [x]) = ecs l ++ ece x := by simp [ecs]
theorem flat_at {α : Type} (s : Nat) (g : α → List Value) (hg : ∀ x, (g x).length = s) : ∀ (l : List α) (i j : Nat) (hi : i < l.length), j < s → (l.flatMap g)[i * s + j]? = (g l[i])[j]?
  | x :: r, 0, j, _, hj => by
    rw [List.flatMap_cons, List.getElem?_append_left (by rw [hg]; omega)]
    simp
  | x :: r, i + 1, j, hi, hj => by
    rw [List.flatMap_cons, List.getElem?_append_right (by rw [hg, Nat.succ_mul]; omega), hg]
    rw [show (i + 1) * s + j - s = i * s + j from by rw [Nat.succ_mul]; omega]
    exact flat_at s g hg r i j (by simp at hi; omega) hj
theorem nz_of {b k d : Nat} {w : World} {q : Option Addr} {l : List Nt} (h : w.ownsRow b 37 6 (.slice q k d) k (ncs l)) (hk : l.length = k) : Nz w q l := fun i hi => by
  obtain ⟨g, rfl, _, hg⟩ := own_some h (by omega)
  refine ⟨g, 0, rfl, hg, fun j hj => ?_⟩
  have h1 := flat_at 6 nce (fun _ => rfl) l i j hi hj
  have e : ∃ u, (nce l[i])[j]? = some u := ⟨_, List.getElem?_eq_getElem (by simp [nce]; omega)⟩
  obtain ⟨u, hu⟩ := e
  have h2 := (Dm.own_cells h).2 (i * 6 + j) u (h1.trans hu)
  rw [Addr.add_lit] at h2
  rw [Nat.add_assoc, h2, ← hu]
  simp [nce]
theorem ez_of {b k d : Nat} {w : World} {q : Option Addr} {l : List Ne} (h : w.ownsRow b 43 6 (.slice q k d) k (ecs l)) (hk : l.length = k) (ha : emt w l) : Ez w q l := fun i hi => by
  obtain ⟨g, rfl, _, hg⟩ := own_some h (by omega)
  refine ⟨⟨g, 0, rfl, hg, fun j hj => ?_⟩, ha _ (List.getElem_mem hi)⟩
  have h1 := flat_at 6 ece (fun _ => rfl) l i j hi hj
  have e : ∃ u, (ece l[i])[j]? = some u := ⟨_, List.getElem?_eq_getElem (by simp [ece]; omega)⟩
  obtain ⟨u, hu⟩ := e
  have h2 := (Dm.own_cells h).2 (i * 6 + j) u (h1.trans hu)
  rw [Addr.add_lit] at h2
  rw [Nat.add_assoc, h2, ← hu]
  simp [ece]
theorem row_grown {base : Nat} {w w' : World} {v : Value} {e t : TypeId} {size n g : Nat} {xs : List Value} {cs : Array Value} (h : w.ownsRow base e size v n xs) (hg : w.grownBy w' v.ownBlock) (r : w.heap[g]? = some (.cells cs t (0, 0))) (ne : t ≠ e) : w'.heap[g]? = some (.cells cs t (0, 0)) :=
  (hg.block g (row_lt r) (fun eq => by obtain ⟨cur, hc⟩ := own_ty h eq.symm; exact row_ne r hc ne rfl)).trans r
theorem own_grown {base base' : Nat} {w w' : World} {v v' : Value} {e t : TypeId} {size n size' n' : Nat} {xs xs' : List Value} (h : w.ownsRow base e size v n xs) (hg : w.grownBy w' v.ownBlock) (h' : w.ownsRow base' t size' v' n' xs') (ne : t ≠ e) : w'.ownsRow base' t size' v' n' xs' :=
  own_same h' (fun g hb => by obtain ⟨cur, hc⟩ := own_ty h' hb; exact (row_grown h hg hc ne).trans hc.symm)
theorem infoN40 : (Try.prog.info? 37).map (fun i => (i.zero, i.size, i.bytes)) = some (some (.agg #[.int .u32 0, .int .u32 0, .int .u64 0, .int .u64 0, .int .u64 0, .int .u64 0]), 6, 40) := by kernel_rfl
theorem infoE56 : (Try.prog.info? 43).map (fun i => (i.zero, i.size, i.bytes)) = some (some (.agg #[.int .u32 0, .int .u32 0, .int .u64 0, .int .u64 0, .bool false, .slice none 0 0]), 6, 56) := by kernel_rfl
theorem emt_on {w w' : World} {R : List Ne} (h : emt w R) (hb : Below w.heap.size w w') : emt w' R := fun x hx => (h x hx).on hb
theorem emt_dg {w w' : World} {R : List Ne} (h : emt w R) (hd : Dg w w') : emt w' R := fun x hx => am_dg (h x hx) hd
theorem text_5 : IsText 5 (nums ⟨#[48, 46, 48, 53]⟩) := ⟨3, ⟨by decide, by decide, .inl rfl⟩, by decide⟩
theorem hi_5 : hiW 5 = 0 := by decide
theorem lo_5 : loW 5 = 5 := by decide
theorem amt_5 : Amt 5 := ⟨by decide, by decide⟩
theorem cents_5 (U : World) : Calls Try.prog 12 #[.int .i64 5] U fun e w' => e = .returned (.agg #[.int .u64 0, .int .u64 5]) ∧ Below U.heap.size U w' := by
  have t := cents_any 5 U (by decide) (by decide)
  unfold mv at t
  rw [hi_5, lo_5] at t
  exact t
theorem say_5 (U : World) : Calls Try.prog 13 #[.agg #[.int .u64 0, .int .u64 5]] U fun e w' => e = .returned (.string ⟨#[48, 46, 48, 53]⟩) ∧ Below U.heap.size U w' := by
  have t := text_walk 5 U amt_5
  unfold mv at t
  rw [hi_5, lo_5] at t
  refine t.mono ?_
  rintro e w' ⟨⟨xs, h1, h2⟩, h3⟩
  have hx := isText_unique 5 _ _ text_5 h1
  rw [← hx, strOfNums_nums] at h2
  exact ⟨h2, h3⟩
/-- what both say of one list. -/
def Tq (D : Option (Int → Option Int)) (r : List (Int × Int)) : Prop := (D = none ∧ r = []) ∨ ∃ f, D = some f ∧ Rel f r
theorem Tq.uniq {D : Option (Int → Option Int)} {r r' : List (Int × Int)} (h : Tq D r) (h' : Tq D r') : r = r' := by
  rcases h with ⟨h1, h2⟩ | ⟨f, h1, h2⟩
  · rcases h' with ⟨k1, k2⟩ | ⟨f', k1, k2⟩
    · rw [h2, k2]
    · rw [h1] at k1; cases k1
  · rcases h' with ⟨k1, k2⟩ | ⟨f', k1, k2⟩
    · rw [h1] at k1; cases k1
    · rw [h1] at k1; cases k1; exact h2.uniq k2
theorem Tq.amt {D : Option (Int → Option Int)} {r : List (Int × Int)} (h : Tq D r) : ∀ x ∈ r, Amt x.2 := by
  rcases h with ⟨h1, rfl⟩ | ⟨f, h1, h2⟩
  · intro x hx; cases hx
  · exact fun x hx => (h2.ok x hx).2
def ecd (D : Option (Int → Option Int)) : Int := if D.isNone then 10 else 0
theorem du_form {base : Nat} {w' : World} {e : Ending} {D : Option (Int → Option Int)} (h : DuP base w' e D) : ∃ (r : List (Int × Int)) (q : Option Addr) (d n : Nat), r.length = n ∧ e = .returned (.tuple #[.slice q n d, .int .i64 (ecd D)]) ∧ Tq D r ∧ w'.ownsRow base 52 3 (.slice q n d) n (dcs r) := by
  cases D with
  | none => exact ⟨[], none, 0, 0, rfl, h, .inl ⟨rfl, rfl⟩, own_nil _ _ _ _⟩
  | some f =>
    obtain ⟨r, q, d, n, h1, h2, h3, h4⟩ := h
    exact ⟨r, q, d, n, h1, h2, .inr ⟨f, rfl, h3⟩, h4⟩
theorem rdu_form {base : Nat} {w' : World} {e : Ending} {D : Option (Int → Option Int)} (h : RDuP base w' e D) : ∃ (R : List De) (q : Option Addr) (d n : Nat), R.length = n ∧ e = .returned (.tuple #[.slice q n d, .int .i64 (ecd D)]) ∧ Tq D (dmv R) ∧ w'.ownsRow base 54 3 (.slice q n d) n (rcs R) ∧ ams w' R := by
  cases D with
  | none => exact ⟨[], none, 0, 0, rfl, h, .inl ⟨rfl, rfl⟩, own_nil _ _ _ _, fun x hx => (by cases hx)⟩
  | some f =>
    obtain ⟨r, q, d, n, h1, h2, h3, h4⟩ := h
    exact ⟨r, q, d, n, h1, h2, .inr ⟨f, rfl, h3⟩, h4⟩
theorem one_due : dues (fun _ => none) [(7, 5)] = some (upd (fun _ => none) 7 5) := by
  rw [dues]
  rfl
theorem one_rel : Rel (upd (fun _ => none) 7 5) [(7, 5)] := by
  refine ⟨by simp, fun x hx => ?_, fun m v hm => ?_⟩
  · simp at hx; subst hx; exact ⟨u32_mk (by decide) (by decide), amt_5⟩
  · by_cases e : m = 7
    · subst e
      rw [upd_same]
      simp
      exact eq_comm
    · rw [upd_other _ _ e]
      simp [e]
theorem nz_one {w : World} {g : Nat} (h : w.heap[g]? = some (.cells #[.int .u32 7, .int .u32 0, .int .u64 0, .int .u64 0, .int .u64 0, .int .u64 5] 37 (0, 0))) : Nz w (some ⟨g, 0, none⟩) [⟨7, 0, 0, 0, 5⟩] := fun k hk => by
  obtain rfl : k = 0 := by simp at hk; omega
  refine ⟨g, 0, rfl, row_lt h, fun j hj => ?_⟩
  have := row_cell h j
  rw [show 0 + 0 * 6 + j = j from by omega, this]
  simp [hi_5, lo_5]
theorem one_run {X : World} {x : Nat} (h : X.heap[x]? = some (.cells #[.int .u32 7, .int .u32 0, .int .u64 0, .int .u64 0, .int .u64 0, .int .u64 5] 37 (0, 0))) : Calls Try.prog 8 #[.slice (some ⟨x, 0, none⟩) 1 1] X fun e w' => DuP X.heap.size w' e (some (upd (fun _ => none) 7 5)) ∧ Below X.heap.size X w' := by
  have h1 := dues_any (c := 1) (nz_one h) (fun y hy => by simp at hy; subst hy; exact ⟨u32_mk (by decide) (by decide), amt_5⟩) (by decide)
  rw [show nma [⟨7, 0, 0, 0, 5⟩] = [(7, 5)] from rfl, one_due] at h1
  exact h1
theorem law_any (q : Option Addr) (cap : Nat) (l : List Ow) (w : World) (hO : Oz w q l) (hok : ∀ z ∈ l, z.ok) (hm : l.length ≤ 1048576) :
    Calls Try.prog 4 #[.slice q l.length cap] w fun e w' => e = .returned (.bool true) ∧ Below w.heap.size w w' := by
  obtain ⟨n, hn⟩ : ∃ n, l.length = n := ⟨_, rfl⟩
  obtain ⟨b, hb⟩ : ∃ b, w.heap.size = b := ⟨_, rfl⟩
  have HB := hid hb
  have HO := hid hO
  have HOK := hid hok
  have HN := hid hn
  have HM := hid (show n ≤ 1048576 from by rw [← hn]; exact hm)
  rw [hn, hb]
  clear hO hok hm hn hb
  go_enter Try.func4, Try.ntmps4
  go_upto_region 4 with fail
  go_loopw [3, 4, 5] (fun av bv iv wr => ∃ (i ka da kb db : Nat) (qa qb : Option Addr) (LA : List Nt) (LB : List Ne), i ≤ n ∧ iv = .int .i64 (i : Nat) ∧ av = .slice qa ka da ∧ bv = .slice qb kb db ∧ Hid (LA.length = ka ∧ LB.length = kb ∧ ka ≤ i ∧ kb ≤ i) ∧ Hid (nma LA = nea LB ∧ (∀ x ∈ LA, x.ok) ∧ (∀ x ∈ LB, x.ok)) ∧ Hid (wr.ownsRow b 37 6 (.slice qa ka da) ka (ncs LA)) ∧ Hid (wr.ownsRow b 43 6 (.slice qb kb db) kb (ecs LB)) ∧ Hid (emt wr LB) ∧ Hid (Below b w wr)) (fun _ _ iv _ => n - (intOf iv).toNat)
  case atStart => exact ⟨0, 0, 0, 0, 0, none, none, [], [], Nat.zero_le _, rfl, rfl, rfl, ⟨rfl, rfl, Nat.le_refl _, Nat.le_refl _⟩, ⟨rfl, fun x h => (by cases h), fun x h => (by cases h)⟩, own_nil _ _ _ _, own_nil _ _ _ _, fun x h => (by cases h), by rw [← HB.out]; exact Below.refl _ _⟩
  case round =>
    obtain ⟨i, ka, da, kb, db, qa, qb, LA, LB, hin, rfl, rfl, rfl, HL, HP, HA, HE, HT, BW⟩ := hrel
    have SB := hid (show b ≤ wr.heap.size from by rw [← HB.out]; exact BW.out.size)
    by_cases hlt : i < n
    · have hi' : i < l.length := by rw [HN.out]; exact hlt
      obtain ⟨z, off, rfl, hbl, hc⟩ := HO.out i hi'
      have ok := HOK.out _ (List.getElem_mem hi')
      generalize l[i] = x at hc ok
      obtain ⟨m, wh, wl⟩ := x
      obtain ⟨hum, hwh, hwl⟩ := ok
      have HUM := hid (show U32 m from hum)
      obtain ⟨mm, er, hamt, hor, CF, CR⟩ := makes wh wl hwh hwl
      have HAM := hid hamt
      have HOR := hid (show er = 0 ∨ er = 3 from hor.elim (fun h => .inl h.1) (fun h => .inr h.1))
      have CF := hid CF
      have CR := hid CR
      have C0 := hid (show ∀ U, Below b w U → U.cell? ⟨z, off + i * 3, none⟩ = some (.int .u32 m) from fun U h => (h.cell (p := ⟨z, off + i * 3 + 0, none⟩) (by rw [← HB.out]; exact hbl)).trans (hc 0 (by decide)))
      have C1 := hid (show ∀ U, Below b w U → U.cell? ⟨z, off + i * 3 + 1, none⟩ = some (.int .u64 wh) from fun U h => (h.cell (p := ⟨z, off + i * 3 + 1, none⟩) (by rw [← HB.out]; exact hbl)).trans (hc 1 (by decide)))
      have C2 := hid (show ∀ U, Below b w U → U.cell? ⟨z, off + i * 3 + 2, none⟩ = some (.int .u64 wl) from fun U h => (h.cell (p := ⟨z, off + i * 3 + 2, none⟩) (by rw [← HB.out]; exact hbl)).trans (hc 2 (by decide)))
      have i0 : (0 : Int) ≤ (i : Int) := by omega
      have i1 : (i : Int) < (n : Int) := by omega
      have wi : IntKind.i64.wrap ((i : Int) + 1) = ((i + 1 : Nat) : Int) := by have := HM.out; rw [IntKind.wrap_i64]; omega
      have HLT := hid hlt
      obtain ⟨mh, hmh⟩ : ∃ x, hiW mm = x := ⟨_, rfl⟩
      obtain ⟨ml, hml⟩ : ∃ x, loW mm = x := ⟨_, rfl⟩
      rw [hmh, hml] at CF
      have HMW := hid (And.intro hmh hml)
      have hne : (er != er) = false := by simp
      have c1 := C1.out wr BW.out
      have c2 := C2.out wr BW.out
      clear hlt hin hi' hbl hum hwh hwl hc hamt hor hmh hml
      go_upto_region 7 with (first | (go_at_call 10; with_reducible refine (CF.out wr).mono ?_; rintro e X2 ⟨rfl, hbx⟩; have B2 := hid hbx; clear hbx; have HZ2 := hid (World.alloc_heap_new X2 (.cells #[.int .u64 0, .int .u64 0] 35))) | (refine wpList_store_row (by rfl) 35 (.tmp 6) (.tmp 30) (by rfl) X2.heap.size #[.int .u64 mh, .int .u64 ml] (by rfl) (by rfl) 35 _ HZ2.out infoM2 (by rfl) (by simp [Value.oneCell']) ?_))
      obtain ⟨Y, hY⟩ : ∃ Y, (X2.alloc (.cells #[.int .u64 0, .int .u64 0] 35)).setRow X2.heap.size #[.int .u64 mh, .int .u64 ml] = Y := ⟨_, rfl⟩
      have GY := hid (show Y.heap[X2.heap.size]? = some (.cells #[.int .u64 mh, .int .u64 ml] 35 (0, 0)) from by rw [← hY]; exact setRow_heap _ _ _ _ 35 (0, 0) HZ2.out)
      have BY := hid (show Below wr.heap.size wr Y from btr B2.out (by rw [← hY]; exact Dm.setRow_below (ball _ _) (Nat.le_refl _)))
      rw [hY]
      obtain ⟨y1, hy1⟩ : ∃ y, X2.heap.size = y := ⟨_, rfl⟩
      rw [hy1] at GY ⊢
      clear hY HZ2 hy1 B2 c1 c2
      have c1 := C1.out Y (BW.out.trans (BY.out.mono SB.out))
      have c2 := C2.out Y (BW.out.trans (BY.out.mono SB.out))
      go_upto_region 8 with (first | (go_at_call 11; with_reducible refine (CR.out Y).mono ?_; rintro e X3 ⟨⟨yb, yp, yn, yc, rfl, hya⟩, hbx⟩; have B3 := hid hbx; have HYA := hid hya; clear hbx hya; have HZ3 := hid (World.alloc_heap_new X3 (.cells #[.bool false, .slice none 0 0] 41))) | (refine wpList_store_row (by rfl) 41 (.tmp 8) (.tmp 39) (by rfl) X3.heap.size #[.bool yb, .slice yp yn yc] (by rfl) (by rfl) 41 _ HZ3.out infoA2 (by rfl) (by simp [Value.oneCell']) ?_))
      obtain ⟨Z, hZ⟩ : ∃ Y, (X3.alloc (.cells #[.bool false, .slice none 0 0] 41)).setRow X3.heap.size #[.bool yb, .slice yp yn yc] = Y := ⟨_, rfl⟩
      have bZ := hid (show Below X3.heap.size X3 Z from by rw [← hZ]; exact Dm.setRow_below (ball _ _) (Nat.le_refl _))
      have GZ := hid (show Z.heap[X3.heap.size]? = some (.cells #[.bool yb, .slice yp yn yc] 41 (0, 0)) from by rw [← hZ]; exact setRow_heap _ _ _ _ 41 (0, 0) HZ3.out)
      have BZ := hid (show Below wr.heap.size wr Z from btr BY.out (btr B3.out bZ.out))
      have GY2 := hid (row_on (row_on GY.out B3.out) bZ.out)
      have HYZ := hid (HYA.out.on bZ.out)
      rw [hZ]
      obtain ⟨y2, hy2⟩ : ∃ y, X3.heap.size = y := ⟨_, rfl⟩
      rw [hy2] at GZ ⊢
      clear hZ HZ3 hy2 B3 c1 c2 BY HYA GY bZ
      have BWZ := hid (show Below b w Z from BW.out.trans (BZ.out.mono SB.out))
      have HAZ := hid (own_on HA.out BZ.out)
      have HEZ := hid (own_on HE.out BZ.out)
      have HTZ := hid (emt_on HT.out BZ.out)
      have SZ := hid (show b ≤ Z.heap.size from Nat.le_trans SB.out BZ.out.size)
      rcases HOR.out with e0 | e0
      · subst e0
        go_upto_region 11 with fail
        have K0 := hid (show ∀ U, Below Z.heap.size Z U → U.cell? ⟨z, off + i * 3, none⟩ = some (.int .u32 m) from fun U h => C0.out U (BWZ.out.trans (h.mono SZ.out)))
        have K1 := hid (show ∀ U, Below Z.heap.size Z U → U.cell? ⟨y1, 0, none⟩ = some (.int .u64 mh) from fun U h => row_cell (row_on GY2.out h) 0)
        have K2 := hid (show ∀ U, Below Z.heap.size Z U → U.cell? ⟨y1, 1, none⟩ = some (.int .u64 ml) from fun U h => row_cell (row_on GY2.out h) 1)
        obtain ⟨V1, hV1⟩ : ∃ U, Z.drew = U := ⟨_, rfl⟩
        have DV1 := hid (show Below Z.heap.size Z V1 from by rw [← hV1]; exact bdrew1 _)
        have BV1 := hid (btr (Below.refl Z.heap.size Z) DV1.out)
        refine wp_region_held_drew (S := fun U => U.cell? ⟨z, off + i * 3, none⟩ = some (.int .u32 m) ∧ U.cell? ⟨y1, 0, none⟩ = some (.int .u64 mh) ∧ U.cell? ⟨y1, 1, none⟩ = some (.int .u64 ml)) (by kernel_rfl) ?_ (fun hHeld => ?_)
        · (try dsimp only); rw [hV1]; exact ⟨K0.out _ BV1.out, K1.out _ BV1.out, K2.out _ BV1.out⟩
        rw [hV1] at hHeld ⊢
        clear hV1
        refine' wpAnyH_take (i := 0) (oi := _) (v := _) rfl (by kernel_rfl) (by kernel_rfl) (by kernel_rfl) (fun _ _ _ h => h) (Or.inl ⟨by kernel_rfl, ?_⟩) (by assumption) ?_
        rotate_left
        · (intro w hSw; (try dsimp only at hSw); go_simp; try (with_reducible rfl))
        try simp only [List.getElem_toArray, List.getElem_cons_succ, List.getElem_cons_zero, Act.put, List.setIfInBounds_toArray, List.set_cons_zero, List.set_cons_succ]
        refine' wpAnyH_take (i := 1) (oi := _) (v := _) rfl (by kernel_rfl) (by kernel_rfl) (by kernel_rfl) (fun _ _ _ h => h) (Or.inl ⟨by kernel_rfl, ?_⟩) (by assumption) ?_
        rotate_left
        · (intro w hSw; (try dsimp only at hSw); go_simp; try (with_reducible rfl))
        try simp only [List.getElem_toArray, List.getElem_cons_succ, List.getElem_cons_zero, Act.put, List.setIfInBounds_toArray, List.set_cons_zero, List.set_cons_succ]
        refine' wpAnyH_take (i := 2) (oi := _) (v := _) rfl (by kernel_rfl) (by kernel_rfl) (by kernel_rfl) (fun _ _ _ h => h) (Or.inl ⟨by kernel_rfl, ?_⟩) (by assumption) ?_
        rotate_left
        · (intro w hSw; (try dsimp only at hSw); go_simp; try (with_reducible rfl))
        try simp only [List.getElem_toArray, List.getElem_cons_succ, List.getElem_cons_zero, Act.put, List.setIfInBounds_toArray, List.set_cons_zero, List.set_cons_succ]
        refine' wpAnyH_take (i := 3) (oi := _) (v := _) rfl (by kernel_rfl) (by kernel_rfl) (by kernel_rfl) (fun _ _ _ h => h) (Or.inl ⟨by kernel_rfl, ?_⟩) (by assumption) ?_
        rotate_left
        · (intro w hSw; (try dsimp only at hSw); go_simp; try (with_reducible rfl))
        try simp only [List.getElem_toArray, List.getElem_cons_succ, List.getElem_cons_zero, Act.put, List.setIfInBounds_toArray, List.set_cons_zero, List.set_cons_succ]
        refine' wpAnyH_take (i := 4) (oi := _) (v := _) rfl (by kernel_rfl) (by kernel_rfl) (by kernel_rfl) (fun _ _ _ h => h) (Or.inl ⟨by kernel_rfl, ?_⟩) (by assumption) ?_
        rotate_left
        · (intro w hSw; (try dsimp only at hSw); go_simp; try (with_reducible rfl))
        try simp only [List.getElem_toArray, List.getElem_cons_succ, List.getElem_cons_zero, Act.put, List.setIfInBounds_toArray, List.set_cons_zero, List.set_cons_succ]
        refine' wpAnyH_take (i := 5) (oi := _) (v := _) rfl (by kernel_rfl) (by kernel_rfl) (by kernel_rfl) (fun _ _ _ h => h) (Or.inl ⟨by kernel_rfl, ?_⟩) (by assumption) ?_
        rotate_left
        · (intro w hSw; (try dsimp only at hSw); go_simp; try (with_reducible rfl))
        try simp only [List.getElem_toArray, List.getElem_cons_succ, List.getElem_cons_zero, Act.put, List.setIfInBounds_toArray, List.set_cons_zero, List.set_cons_succ]
        refine' wpAnyH_take (i := 6) (oi := _) (v := _) rfl (by kernel_rfl) (by kernel_rfl) (by kernel_rfl) (fun _ _ _ h => h) (Or.inl ⟨by kernel_rfl, ?_⟩) (by assumption) ?_
        rotate_left
        · (intro w hSw; (try dsimp only at hSw); go_simp; try (with_reducible rfl))
        try simp only [List.getElem_toArray, List.getElem_cons_succ, List.getElem_cons_zero, Act.put, List.setIfInBounds_toArray, List.set_cons_zero, List.set_cons_succ]
        refine' wpAnyH_take (i := 7) (oi := _) (v := _) rfl (by kernel_rfl) (by kernel_rfl) (by kernel_rfl) (fun _ _ _ h => h) (Or.inl ⟨by kernel_rfl, ?_⟩) (by assumption) ?_
        rotate_left
        · (intro w hSw; (try dsimp only at hSw); go_simp; try (with_reducible rfl))
        try simp only [List.getElem_toArray, List.getElem_cons_succ, List.getElem_cons_zero, Act.put, List.setIfInBounds_toArray, List.set_cons_zero, List.set_cons_succ]
        refine wpAnyH_ready (rs := [8]) (by kernel_rfl) (by simp) ?_
        refine (AllReadyH.cons (o := _) rfl (fun K hK => ?_) AllReadyH.nil)
        go_simp
        obtain ⟨XE1, hXE1⟩ : ∃ X, V1.alloc (.cells #[.int .u32 m, .int .u32 0, .int .u64 0, .int .u64 0, .int .u64 mh, .int .u64 ml] 37) = X := ⟨_, rfl⟩
        obtain ⟨xE1, hxE1⟩ : ∃ x, V1.heap.size = x := ⟨_, rfl⟩
        have bXE1 := hid (show Below V1.heap.size V1 XE1 from by rw [← hXE1]; exact ball _ _)
        have RXE1 := hid (show XE1.heap[xE1]? = some (.cells #[.int .u32 m, .int .u32 0, .int .u64 0, .int .u64 0, .int .u64 mh, .int .u64 ml] 37 (0, 0)) from by rw [← hXE1, ← hxE1]; exact World.alloc_heap_new _ _)
        have BXE1 := hid (btr BV1.out bXE1.out)
        have OXE1 := hid (own_on HAZ.out BXE1.out)
        have SXE1 := hid (show b ≤ XE1.heap.size from Nat.le_trans SZ.out BXE1.out.size)
        rw [hXE1, hxE1]
        clear hXE1 hxE1
        refine hK.out _ _ ?_ (fun hHeld => ?_)
        · (try dsimp only); exact ⟨K0.out _ BXE1.out, K1.out _ BXE1.out, K2.out _ BXE1.out⟩
        clear hK K
        try simp only [List.getElem_toArray, List.getElem_cons_succ, List.getElem_cons_zero, Act.put, List.setIfInBounds_toArray, List.set_cons_zero, List.set_cons_succ]
        refine wpAnyH_ready (rs := [9]) (by kernel_rfl) (by simp) ?_
        refine (AllReadyH.cons (o := _) rfl (fun K hK => ?_) AllReadyH.nil)
        refine step_app_rd (by rfl) (.tmp 46) (.tmp 54) 27 37 _ 6 40 (by rfl) Try.underlying27 infoN40 rfl (by decide) b _ ka (ncs LA) (by rfl) OXE1.out ⟨xE1, 0, none⟩ 1 1 [.int .u32 m, .int .u32 0, .int .u64 0, .int .u64 0, .int .u64 mh, .int .u64 ml] (by rfl) rfl (fun j u hu => row_rd RXE1.out hu) (by simp [Value.oneCell']) (by have := HL.out; have := HM.out; have := HLT.out; unfold maxLen; omega) (by have := HL.out; have := HM.out; have := HLT.out; omega) SXE1.out ?_
        intro v' E1 hown hgrow
        obtain ⟨qE1, dE1, rfl⟩ := own_form hown
        have OE1 := hid hown
        have GE1 := hid hgrow
        clear hown hgrow
        have CE1 := hid (show Below b w E1 from (BWZ.out.trans (BXE1.out.mono SZ.out)).grown GE1.out SXE1.out (fun j hj => (own_lo OXE1.out hj).1))
        have TE1 := hid (show b ≤ E1.heap.size from Nat.le_trans SXE1.out GE1.out.size)
        have GE1z := hid (row_grown OXE1.out GE1.out (row_on GZ.out BXE1.out) (by decide))
        have HEE1 := hid (own_grown OXE1.out GE1.out (own_on HEZ.out BXE1.out) (by decide))
        have HTE1 := hid (emt_dg (emt_on HTZ.out BXE1.out) (ownD OXE1.out GE1.out (by decide)))
        have HYE1 := hid (am_dg (HYZ.out.on BXE1.out) (ownD OXE1.out GE1.out (by decide)))
        refine hK.out _ _ ?_ (fun hHeld => ?_)
        · (try dsimp only); exact ⟨C0.out _ CE1.out, row_cell (row_grown OXE1.out GE1.out (row_on GY2.out BXE1.out) (by decide)) 0, row_cell (row_grown OXE1.out GE1.out (row_on GY2.out BXE1.out) (by decide)) 1⟩
        clear hK K
        try simp only [List.getElem_toArray, List.getElem_cons_succ, List.getElem_cons_zero, Act.put, List.setIfInBounds_toArray, List.set_cons_zero, List.set_cons_succ]
        refine' wpAnyH_take (i := 10) (oi := _) (v := _) rfl (by kernel_rfl) (by kernel_rfl) (by kernel_rfl) (fun _ _ _ h => h) (Or.inl ⟨by kernel_rfl, ?_⟩) (by assumption) ?_
        rotate_left
        · (intro w hSw; (try dsimp only at hSw); go_simp; try (with_reducible rfl))
        try simp only [List.getElem_toArray, List.getElem_cons_succ, List.getElem_cons_zero, Act.put, List.setIfInBounds_toArray, List.set_cons_zero, List.set_cons_succ]
        refine wpAnyH_done (by kernel_rfl) ?_ _
        clear K0 K1 K2
        go_upto_region 12 with fail
        have K0 := hid (show ∀ U, Below E1.heap.size E1 U → U.cell? ⟨z, off + i * 3, none⟩ = some (.int .u32 m) from fun U h => C0.out U (CE1.out.trans (h.mono TE1.out)))
        have K1 := hid (show ∀ U, Below E1.heap.size E1 U → U.cell? ⟨y2, 0, none⟩ = some (.bool yb) from fun U h => row_cell (row_on GE1z.out h) 0)
        have K2 := hid (show ∀ U, Below E1.heap.size E1 U → U.cell? ⟨y2, 1, none⟩ = some (.slice yp yn yc) from fun U h => row_cell (row_on GE1z.out h) 1)
        obtain ⟨V2, hV2⟩ : ∃ U, E1.drew = U := ⟨_, rfl⟩
        have DV2 := hid (show Below E1.heap.size E1 V2 from by rw [← hV2]; exact bdrew1 _)
        have BV2 := hid (btr (Below.refl E1.heap.size E1) DV2.out)
        refine wp_region_held_drew (S := fun U => U.cell? ⟨z, off + i * 3, none⟩ = some (.int .u32 m) ∧ U.cell? ⟨y2, 0, none⟩ = some (.bool yb) ∧ U.cell? ⟨y2, 1, none⟩ = some (.slice yp yn yc)) (by kernel_rfl) ?_ (fun hHeld => ?_)
        · (try dsimp only); rw [hV2]; exact ⟨K0.out _ BV2.out, K1.out _ BV2.out, K2.out _ BV2.out⟩
        rw [hV2] at hHeld ⊢
        clear hV2
        refine' wpAnyH_take (i := 0) (oi := _) (v := _) rfl (by kernel_rfl) (by kernel_rfl) (by kernel_rfl) (fun _ _ _ h => h) (Or.inl ⟨by kernel_rfl, ?_⟩) (by assumption) ?_
        rotate_left
        · (intro w hSw; (try dsimp only at hSw); go_simp; try (with_reducible rfl))
        try simp only [List.getElem_toArray, List.getElem_cons_succ, List.getElem_cons_zero, Act.put, List.setIfInBounds_toArray, List.set_cons_zero, List.set_cons_succ]
        refine' wpAnyH_take (i := 1) (oi := _) (v := _) rfl (by kernel_rfl) (by kernel_rfl) (by kernel_rfl) (fun _ _ _ h => h) (Or.inl ⟨by kernel_rfl, ?_⟩) (by assumption) ?_
        rotate_left
        · (intro w hSw; (try dsimp only at hSw); go_simp; try (with_reducible rfl))
        try simp only [List.getElem_toArray, List.getElem_cons_succ, List.getElem_cons_zero, Act.put, List.setIfInBounds_toArray, List.set_cons_zero, List.set_cons_succ]
        refine' wpAnyH_take (i := 2) (oi := _) (v := _) rfl (by kernel_rfl) (by kernel_rfl) (by kernel_rfl) (fun _ _ _ h => h) (Or.inl ⟨by kernel_rfl, ?_⟩) (by assumption) ?_
        rotate_left
        · (intro w hSw; (try dsimp only at hSw); go_simp; try (with_reducible rfl))
        try simp only [List.getElem_toArray, List.getElem_cons_succ, List.getElem_cons_zero, Act.put, List.setIfInBounds_toArray, List.set_cons_zero, List.set_cons_succ]
        refine' wpAnyH_take (i := 3) (oi := _) (v := _) rfl (by kernel_rfl) (by kernel_rfl) (by kernel_rfl) (fun _ _ _ h => h) (Or.inl ⟨by kernel_rfl, ?_⟩) (by assumption) ?_
        rotate_left
        · (intro w hSw; (try dsimp only at hSw); go_simp; try (with_reducible rfl))
        try simp only [List.getElem_toArray, List.getElem_cons_succ, List.getElem_cons_zero, Act.put, List.setIfInBounds_toArray, List.set_cons_zero, List.set_cons_succ]
        refine' wpAnyH_take (i := 4) (oi := _) (v := _) rfl (by kernel_rfl) (by kernel_rfl) (by kernel_rfl) (fun _ _ _ h => h) (Or.inl ⟨by kernel_rfl, ?_⟩) (by assumption) ?_
        rotate_left
        · (intro w hSw; (try dsimp only at hSw); go_simp; try (with_reducible rfl))
        try simp only [List.getElem_toArray, List.getElem_cons_succ, List.getElem_cons_zero, Act.put, List.setIfInBounds_toArray, List.set_cons_zero, List.set_cons_succ]
        refine' wpAnyH_take (i := 5) (oi := _) (v := _) rfl (by kernel_rfl) (by kernel_rfl) (by kernel_rfl) (fun _ _ _ h => h) (Or.inl ⟨by kernel_rfl, ?_⟩) (by assumption) ?_
        rotate_left
        · (intro w hSw; (try dsimp only at hSw); go_simp; try (with_reducible rfl))
        try simp only [List.getElem_toArray, List.getElem_cons_succ, List.getElem_cons_zero, Act.put, List.setIfInBounds_toArray, List.set_cons_zero, List.set_cons_succ]
        refine' wpAnyH_take (i := 6) (oi := _) (v := _) rfl (by kernel_rfl) (by kernel_rfl) (by kernel_rfl) (fun _ _ _ h => h) (Or.inl ⟨by kernel_rfl, ?_⟩) (by assumption) ?_
        rotate_left
        · (intro w hSw; (try dsimp only at hSw); go_simp; try (with_reducible rfl))
        try simp only [List.getElem_toArray, List.getElem_cons_succ, List.getElem_cons_zero, Act.put, List.setIfInBounds_toArray, List.set_cons_zero, List.set_cons_succ]
        refine' wpAnyH_take (i := 7) (oi := _) (v := _) rfl (by kernel_rfl) (by kernel_rfl) (by kernel_rfl) (fun _ _ _ h => h) (Or.inl ⟨by kernel_rfl, ?_⟩) (by assumption) ?_
        rotate_left
        · (intro w hSw; (try dsimp only at hSw); go_simp; try (with_reducible rfl))
        try simp only [List.getElem_toArray, List.getElem_cons_succ, List.getElem_cons_zero, Act.put, List.setIfInBounds_toArray, List.set_cons_zero, List.set_cons_succ]
        refine wpAnyH_ready (rs := [8]) (by kernel_rfl) (by simp) ?_
        refine (AllReadyH.cons (o := _) rfl (fun K hK => ?_) AllReadyH.nil)
        go_simp
        obtain ⟨XE2, hXE2⟩ : ∃ X, V2.alloc (.cells #[.int .u32 m, .int .u32 0, .int .u64 0, .int .u64 0, .bool yb, .slice yp yn yc] 43) = X := ⟨_, rfl⟩
        obtain ⟨xE2, hxE2⟩ : ∃ x, V2.heap.size = x := ⟨_, rfl⟩
        have bXE2 := hid (show Below V2.heap.size V2 XE2 from by rw [← hXE2]; exact ball _ _)
        have RXE2 := hid (show XE2.heap[xE2]? = some (.cells #[.int .u32 m, .int .u32 0, .int .u64 0, .int .u64 0, .bool yb, .slice yp yn yc] 43 (0, 0)) from by rw [← hXE2, ← hxE2]; exact World.alloc_heap_new _ _)
        have BXE2 := hid (btr BV2.out bXE2.out)
        have OXE2 := hid (own_on HEE1.out BXE2.out)
        have SXE2 := hid (show b ≤ XE2.heap.size from Nat.le_trans TE1.out BXE2.out.size)
        rw [hXE2, hxE2]
        clear hXE2 hxE2
        refine hK.out _ _ ?_ (fun hHeld => ?_)
        · (try dsimp only); exact ⟨K0.out _ BXE2.out, K1.out _ BXE2.out, K2.out _ BXE2.out⟩
        clear hK K
        try simp only [List.getElem_toArray, List.getElem_cons_succ, List.getElem_cons_zero, Act.put, List.setIfInBounds_toArray, List.set_cons_zero, List.set_cons_succ]
        refine wpAnyH_ready (rs := [9]) (by kernel_rfl) (by simp) ?_
        refine (AllReadyH.cons (o := _) rfl (fun K hK => ?_) AllReadyH.nil)
        refine step_app_rd (by rfl) (.tmp 56) (.tmp 64) 31 43 _ 6 56 (by rfl) Try.underlying31 infoE56 rfl (by decide) b _ kb (ecs LB) (by rfl) OXE2.out ⟨xE2, 0, none⟩ 1 1 [.int .u32 m, .int .u32 0, .int .u64 0, .int .u64 0, .bool yb, .slice yp yn yc] (by rfl) rfl (fun j u hu => row_rd RXE2.out hu) (by simp [Value.oneCell']) (by have := HL.out; have := HM.out; have := HLT.out; unfold maxLen; omega) (by have := HL.out; have := HM.out; have := HLT.out; omega) SXE2.out ?_
        intro v' E2 hown hgrow
        obtain ⟨qE2, dE2, rfl⟩ := own_form hown
        have OE2 := hid hown
        have GE2 := hid hgrow
        clear hown hgrow
        have CE2 := hid (show Below b w E2 from (CE1.out.trans (BXE2.out.mono TE1.out)).grown GE2.out SXE2.out (fun j hj => (own_lo OXE2.out hj).1))
        have TE2 := hid (show b ≤ E2.heap.size from Nat.le_trans SXE2.out GE2.out.size)
        have OA2 := hid (own_grown OXE2.out GE2.out (own_on OE1.out BXE2.out) (by decide))
        have HTE2 := hid (emt_dg (emt_on HTE1.out BXE2.out) (ownD OXE2.out GE2.out (by decide)))
        have HYE2 := hid (am_dg (HYE1.out.on BXE2.out) (ownD OXE2.out GE2.out (by decide)))
        refine hK.out _ _ ?_ (fun hHeld => ?_)
        · (try dsimp only); exact ⟨C0.out _ CE2.out, row_cell (row_grown OXE2.out GE2.out (row_on GE1z.out BXE2.out) (by decide)) 0, row_cell (row_grown OXE2.out GE2.out (row_on GE1z.out BXE2.out) (by decide)) 1⟩
        clear hK K
        try simp only [List.getElem_toArray, List.getElem_cons_succ, List.getElem_cons_zero, Act.put, List.setIfInBounds_toArray, List.set_cons_zero, List.set_cons_succ]
        refine' wpAnyH_take (i := 10) (oi := _) (v := _) rfl (by kernel_rfl) (by kernel_rfl) (by kernel_rfl) (fun _ _ _ h => h) (Or.inl ⟨by kernel_rfl, ?_⟩) (by assumption) ?_
        rotate_left
        · (intro w hSw; (try dsimp only at hSw); go_simp; try (with_reducible rfl))
        try simp only [List.getElem_toArray, List.getElem_cons_succ, List.getElem_cons_zero, Act.put, List.setIfInBounds_toArray, List.set_cons_zero, List.set_cons_succ]
        refine wpAnyH_done (by kernel_rfl) ?_ _
        clear K0 K1 K2
        go_wp2
        go_roundw
        case rel =>
          refine ⟨i + 1, ka + 1, dE1, kb + 1, dE2, qE1, qE2, LA ++ [⟨m, 0, 0, 0, mm⟩], LB ++ [⟨m, 0, 0, 0, mm, yb, yp, yn, yc⟩], HLT.out, by go_num, rfl, rfl, hid ?_, hid ?_, hid ?_, hid ?_, hid ?_, CE2⟩
          · have := HL.out
            simp; omega
          · refine ⟨?_, fun x hx => ?_, fun x hx => ?_⟩
            · have := HP.out.1
              unfold nma nea at this ⊢
              rw [List.map_append, List.map_append, this]
              rfl
            · rcases List.mem_append.1 hx with hx | hx
              · exact HP.out.2.1 x hx
              · simp at hx; subst hx; exact ⟨HUM.out, HAM.out⟩
            · rcases List.mem_append.1 hx with hx | hx
              · exact HP.out.2.2 x hx
              · simp at hx; subst hx; exact ⟨HUM.out, HAM.out⟩
          · rw [ncs_snoc]
            have h1 := OA2.out
            rw [← HMW.out.1, ← HMW.out.2] at h1
            exact h1
          · rw [ecs_snoc]
            exact OE2.out
          · intro x hx
            rcases List.mem_append.1 hx with hx | hx
            · exact HTE2.out x hx
            · simp at hx; subst hx; exact HYE2.out
        case measure => have := HLT.out; simp [intOf]; omega
      · subst e0
        go_wp2
        go_roundw
        case rel => exact ⟨i + 1, ka, da, kb, db, qa, qb, LA, LB, HLT.out, by go_num, rfl, rfl, hid (by have := HL.out; omega), HP, HAZ, HEZ, HTZ, BWZ⟩
        case measure => have := HLT.out; simp [intOf]; omega
    · obtain rfl : i = n := by omega
      have jn : ¬ (i : Int) < (i : Int) := by omega
      have N1 := hid (nz_of HA.out HL.out.1)
      have N2 := hid (ez_of HE.out HL.out.2.1 HT.out)
      have hk : LA.length ≤ 1000000000 := by have := HL.out; have := HM.out; omega
      have hk2 : LB.length ≤ 1000000000 := by have := HL.out; have := HM.out; omega
      obtain ⟨wo, rfl⟩ : ∃ x, x = wr := ⟨_, rfl⟩
      have H8 := hid (dues_any (c := da) N1.out HP.out.2.1 hk)
      have H9 := hid (show ∀ U, Below wo.heap.size wo U → Calls Try.prog 9 #[.slice qb LB.length db] U fun e w' => RDuP U.heap.size w' e (dues (fun _ => none) (nea LB)) ∧ Below U.heap.size U w' from fun U h => rdues_any (c := db) (ez_of (own_on HE.out h) HL.out.2.1 (emt_on HT.out h)) HP.out.2.2 hk2)
      rw [HL.out.1, HP.out.1] at H8
      rw [HL.out.2.1] at H9
      obtain ⟨D, hD⟩ : ∃ D, dues (fun _ => none) (nea LB) = D := ⟨_, rfl⟩
      rw [hD] at H8 H9
      clear hlt hin hD hk hk2
      go_upto_region 14 with (go_at_call 8; with_reducible refine H8.out.mono ?_; rintro e w1 ⟨hd, hbx⟩; obtain ⟨r, qr, dr, rn, hrn, rfl, htq, hor⟩ := du_form hd; have B1 := hid hbx; have HRN := hid hrn; have HTQ := hid htq; have HOR := hid hor; clear hbx hd hrn htq hor)
      go_upto_region 15 with (go_at_call 9; with_reducible refine (H9.out w1 B1.out).mono ?_; rintro e w2 ⟨hd, hbx⟩; obtain ⟨R, qs, ds, sn, hsn, rfl, htq, hor, has⟩ := rdu_form hd; have B2 := hid hbx; have HSN := hid hsn; have HTS := hid htq; have HOS := hid hor; have HAS := hid has; clear hbx hd hsn htq hor has)
      obtain ⟨er, her⟩ : ∃ x, ecd D = x := ⟨_, rfl⟩
      rw [her]
      have HRR := hid (show dmv R = r from (HTQ.out.uniq HTS.out).symm)
      have HSR := hid (show sn = rn from by rw [← HSN.out, ← HRN.out, ← HRR.out]; unfold dmv; rw [List.length_map])
      have hsr := HSR.out
      subst hsr
      have hne : (er != er) = false := by simp
      have hnn : ((sn : Int) != (sn : Int)) = false := by simp
      have HO1 := hid (own_on HOR.out B2.out)
      have B02 := hid (btr B1.out B2.out)
      obtain ⟨g2, hg2⟩ : ∃ s, w2.heap.size = s := ⟨_, rfl⟩
      clear her H8 H9 hg2
      go_upto_region 17 with fail
      go_upto_region 18 with fail
      go_loopw [14] (fun iv wr => ∃ (j : Nat), j ≤ sn ∧ iv = .int .i64 (j : Nat) ∧ Hid (Below w2.heap.size w2 wr)) (fun iv _ => sn - (intOf iv).toNat)
      case atStart => exact ⟨0, Nat.zero_le _, rfl, Below.refl _ _⟩
      case round =>
        obtain ⟨j, hjn, rfl, BJ⟩ := hrel
        by_cases hlt : j < sn
        · obtain ⟨ga, rfl, _, hga⟩ := own_some HO1.out (by omega)
          obtain ⟨gb, rfl, _, hgb⟩ := own_some HOS.out (by omega)
          have hj' : j < R.length := by rw [HSN.out]; exact hlt
          have HSP := hid (show R = R.take j ++ R[j] :: R.drop (j + 1) from by rw [← List.drop_eq_getElem_cons hj', List.take_append_drop])
          have HTL := hid (show (R.take j).length = j from by rw [List.length_take]; omega)
          have HYA := hid (HAS.out R[j] (List.getElem_mem hj'))
          have HYM := hid (HTQ.out.amt (R[j].m, R[j].v) (by rw [← HRR.out]; exact List.mem_map.2 ⟨_, List.getElem_mem hj', rfl⟩))
          generalize R[j] = y at HSP HYA HYM
          obtain ⟨ym, yv, yb, yp, yn, yc⟩ := y
          have hcb : ∀ e u, e < 3 → (rce ⟨ym, yv, yb, yp, yn, yc⟩)[e]? = some u → ∀ U, Below w2.heap.size w2 U → U.cell? ⟨gb, j * 3 + e, none⟩ = some u := fun e u he hu U hU => by
            have h1 := (Dm.own_cells HOS.out).2 (j * 3 + e) u (by
              have h0 := rcs_at (R.take j) (R.drop (j + 1)) ⟨ym, yv, yb, yp, yn, yc⟩ e he
              rw [HTL.out, ← HSP.out] at h0
              exact h0.trans hu)
            rw [Addr.add_lit, Nat.zero_add] at h1
            exact (hU.cell (p := ⟨gb, j * 3 + e, none⟩) hgb).trans h1
          have hca : ∀ e u, e < 3 → ([.int .u32 ym, .int .u64 (hiW yv), .int .u64 (loW yv)] : List Value)[e]? = some u → ∀ U, Below w2.heap.size w2 U → U.cell? ⟨ga, j * 3 + e, none⟩ = some u := fun e u he hu U hU => by
            have hr : r = dmv (R.take j) ++ (ym, yv) :: dmv (R.drop (j + 1)) := by
              rw [← HRR.out]
              have h0 := congrArg dmv HSP.out
              unfold dmv at h0 ⊢
              rw [List.map_append, List.map_cons] at h0
              exact h0
            have hlj : j < r.length := by rw [HRN.out]; exact hlt
            have h1 := (Dm.own_cells HO1.out).2 (j * 3 + e) u (by
              have h0 := flat_at 3 (fun x : Int × Int => ([.int .u32 x.1, .int .u64 (hiW x.2), .int .u64 (loW x.2)] : List Value)) (fun _ => rfl) r j e hlj he
              have e1 : r[j] = (ym, yv) := by
                have e2 : (dmv (R.take j)).length = j := by unfold dmv; rw [List.length_map]; exact HTL.out
                have e3 : r[j]? = some (ym, yv) := by
                  rw [hr, List.getElem?_append_right (by rw [e2]; exact Nat.le_refl _), e2, Nat.sub_self]
                  rfl
                rw [List.getElem?_eq_getElem hlj] at e3
                exact Option.some.inj e3
              rw [e1] at h0
              exact h0.trans hu)
            rw [Addr.add_lit, Nat.zero_add] at h1
            exact (hU.cell (p := ⟨ga, j * 3 + e, none⟩) hga).trans h1
          have A0 := hid (show ∀ U, Below wr.heap.size wr U → U.cell? ⟨ga, j * 3, none⟩ = some (.int .u32 ym) from fun U h => hca 0 _ (by decide) rfl U (btr BJ.out h))
          have A1 := hid (show ∀ U, Below wr.heap.size wr U → U.cell? ⟨ga, j * 3 + 1, none⟩ = some (.int .u64 (hiW yv)) from fun U h => hca 1 _ (by decide) rfl U (btr BJ.out h))
          have A2 := hid (show ∀ U, Below wr.heap.size wr U → U.cell? ⟨ga, j * 3 + 2, none⟩ = some (.int .u64 (loW yv)) from fun U h => hca 2 _ (by decide) rfl U (btr BJ.out h))
          have E0 := hid (show ∀ U, Below wr.heap.size wr U → U.cell? ⟨gb, j * 3, none⟩ = some (.int .u32 ym) from fun U h => hcb 0 _ (by decide) rfl U (btr BJ.out h))
          have E1 := hid (show ∀ U, Below wr.heap.size wr U → U.cell? ⟨gb, j * 3 + 1, none⟩ = some (.bool yb) from fun U h => hcb 1 _ (by decide) rfl U (btr BJ.out h))
          have E2 := hid (show ∀ U, Below wr.heap.size wr U → U.cell? ⟨gb, j * 3 + 2, none⟩ = some (.slice yp yn yc) from fun U h => hcb 2 _ (by decide) rfl U (btr BJ.out h))
          have CS := hid (show ∀ U, Below wr.heap.size wr U → Calls Try.prog 7 #[.agg #[.int .u64 (hiW yv), .int .u64 (loW yv)], .agg #[.bool yb, .slice yp yn yc]] U fun e w' => e = .returned (.bool true) ∧ Below U.heap.size U w' from fun U h => same_any yv yb yp yn yc U HYM.out (HYA.out.on (btr BJ.out h)))
          have j0 : (0 : Int) ≤ (j : Int) := by omega
          have j1 : (j : Int) < (sn : Int) := by omega
          have kca : sn ≤ dr := (own_cap HO1.out).1
          have kcb : sn ≤ ds := (own_cap HOS.out).1
          have wj : IntKind.i64.wrap ((j : Int) + 1) = ((j + 1 : Nat) : Int) := by have := (own_cap HO1.out).2.1; unfold maxLen at this; rw [IntKind.wrap_i64]; omega
          have HLT := hid hlt
          clear hlt hjn hj' hga hgb hca hcb
          go_upto_region 20 with fail
          obtain ⟨V3, hV3⟩ : ∃ U, wr.drew = U := ⟨_, rfl⟩
          have DV3 := hid (show Below wr.heap.size wr V3 from by rw [← hV3]; exact bdrew1 _)
          have BV3 := hid (btr (Below.refl wr.heap.size wr) DV3.out)
          refine wp_region_held_drew (S := fun U => U.cell? ⟨ga, j * 3, none⟩ = some (.int .u32 ym) ∧ U.cell? ⟨ga, j * 3 + 1, none⟩ = some (.int .u64 (hiW yv)) ∧ U.cell? ⟨ga, j * 3 + 2, none⟩ = some (.int .u64 (loW yv)) ∧ U.cell? ⟨gb, j * 3, none⟩ = some (.int .u32 ym) ∧ U.cell? ⟨gb, j * 3 + 1, none⟩ = some (.bool yb) ∧ U.cell? ⟨gb, j * 3 + 2, none⟩ = some (.slice yp yn yc)) (by kernel_rfl) ?_ (fun hHeld => ?_)
          · (try dsimp only); rw [hV3]; exact ⟨A0.out _ BV3.out, A1.out _ BV3.out, A2.out _ BV3.out, E0.out _ BV3.out, E1.out _ BV3.out, E2.out _ BV3.out⟩
          rw [hV3] at hHeld ⊢
          clear hV3
          refine' wpAnyH_take (i := 0) (oi := _) (v := _) rfl (by kernel_rfl) (by kernel_rfl) (by kernel_rfl) (fun _ _ _ h => h) (Or.inl ⟨by kernel_rfl, ?_⟩) (by assumption) ?_
          rotate_left
          · (intro w hSw; (try dsimp only at hSw); go_simp; try (with_reducible rfl))
          try simp only [List.getElem_toArray, List.getElem_cons_succ, List.getElem_cons_zero, Act.put, List.setIfInBounds_toArray, List.set_cons_zero, List.set_cons_succ]
          refine' wpAnyH_take (i := 1) (oi := _) (v := _) rfl (by kernel_rfl) (by kernel_rfl) (by kernel_rfl) (fun _ _ _ h => h) (Or.inl ⟨by kernel_rfl, ?_⟩) (by assumption) ?_
          rotate_left
          · (intro w hSw; (try dsimp only at hSw); go_simp; try (with_reducible rfl))
          try simp only [List.getElem_toArray, List.getElem_cons_succ, List.getElem_cons_zero, Act.put, List.setIfInBounds_toArray, List.set_cons_zero, List.set_cons_succ]
          refine' wpAnyH_take (i := 2) (oi := _) (v := _) rfl (by kernel_rfl) (by kernel_rfl) (by kernel_rfl) (fun _ _ _ h => h) (Or.inl ⟨by kernel_rfl, ?_⟩) (by assumption) ?_
          rotate_left
          · (intro w hSw; (try dsimp only at hSw); go_simp; try (with_reducible rfl))
          try simp only [List.getElem_toArray, List.getElem_cons_succ, List.getElem_cons_zero, Act.put, List.setIfInBounds_toArray, List.set_cons_zero, List.set_cons_succ]
          refine' wpAnyH_take (i := 3) (oi := _) (v := _) rfl (by kernel_rfl) (by kernel_rfl) (by kernel_rfl) (fun _ _ _ h => h) (Or.inl ⟨by kernel_rfl, ?_⟩) (by assumption) ?_
          rotate_left
          · (intro w hSw; (try dsimp only at hSw); go_simp; try (with_reducible rfl))
          try simp only [List.getElem_toArray, List.getElem_cons_succ, List.getElem_cons_zero, Act.put, List.setIfInBounds_toArray, List.set_cons_zero, List.set_cons_succ]
          refine' wpAnyH_take (i := 4) (oi := _) (v := _) rfl (by kernel_rfl) (by kernel_rfl) (by kernel_rfl) (fun _ _ _ h => h) (Or.inl ⟨by kernel_rfl, ?_⟩) (by assumption) ?_
          rotate_left
          · (intro w hSw; (try dsimp only at hSw); go_simp; try (with_reducible rfl))
          try simp only [List.getElem_toArray, List.getElem_cons_succ, List.getElem_cons_zero, Act.put, List.setIfInBounds_toArray, List.set_cons_zero, List.set_cons_succ]
          refine' wpAnyH_take (i := 5) (oi := _) (v := _) rfl (by kernel_rfl) (by kernel_rfl) (by kernel_rfl) (fun _ _ _ h => h) (Or.inl ⟨by kernel_rfl, ?_⟩) (by assumption) ?_
          rotate_left
          · (intro w hSw; (try dsimp only at hSw); go_simp; try (with_reducible rfl))
          try simp only [List.getElem_toArray, List.getElem_cons_succ, List.getElem_cons_zero, Act.put, List.setIfInBounds_toArray, List.set_cons_zero, List.set_cons_succ]
          refine' wpAnyH_take (i := 6) (oi := _) (v := _) rfl (by kernel_rfl) (by kernel_rfl) (by kernel_rfl) (fun _ _ _ h => h) (Or.inl ⟨by kernel_rfl, ?_⟩) (by assumption) ?_
          rotate_left
          · (intro w hSw; (try dsimp only at hSw); go_simp; try (with_reducible rfl))
          try simp only [List.getElem_toArray, List.getElem_cons_succ, List.getElem_cons_zero, Act.put, List.setIfInBounds_toArray, List.set_cons_zero, List.set_cons_succ]
          refine' wpAnyH_take (i := 7) (oi := _) (v := _) rfl (by kernel_rfl) (by kernel_rfl) (by kernel_rfl) (fun _ _ _ h => h) (Or.inl ⟨by kernel_rfl, ?_⟩) (by assumption) ?_
          rotate_left
          · (intro w hSw; (try dsimp only at hSw); go_simp; try (with_reducible rfl))
          try simp only [List.getElem_toArray, List.getElem_cons_succ, List.getElem_cons_zero, Act.put, List.setIfInBounds_toArray, List.set_cons_zero, List.set_cons_succ]
          refine' wpAnyH_take (i := 8) (oi := _) (v := _) rfl (by kernel_rfl) (by kernel_rfl) (by kernel_rfl) (fun _ _ _ h => h) (Or.inl ⟨by kernel_rfl, ?_⟩) (by assumption) ?_
          rotate_left
          · (intro w hSw; (try dsimp only at hSw); go_simp; try (with_reducible rfl))
          try simp only [List.getElem_toArray, List.getElem_cons_succ, List.getElem_cons_zero, Act.put, List.setIfInBounds_toArray, List.set_cons_zero, List.set_cons_succ]
          refine' wpAnyH_take (i := 9) (oi := _) (v := _) rfl (by kernel_rfl) (by kernel_rfl) (by kernel_rfl) (fun _ _ _ h => h) (Or.inl ⟨by kernel_rfl, ?_⟩) (by assumption) ?_
          rotate_left
          · (intro w hSw; (try dsimp only at hSw); go_simp; try (with_reducible rfl))
          try simp only [List.getElem_toArray, List.getElem_cons_succ, List.getElem_cons_zero, Act.put, List.setIfInBounds_toArray, List.set_cons_zero, List.set_cons_succ]
          refine' wpAnyH_take (i := 10) (oi := _) (v := _) rfl (by kernel_rfl) (by kernel_rfl) (by kernel_rfl) (fun _ _ _ h => h) (Or.inl ⟨by kernel_rfl, ?_⟩) (by assumption) ?_
          rotate_left
          · (intro w hSw; (try dsimp only at hSw); go_simp; try (with_reducible rfl))
          try simp only [List.getElem_toArray, List.getElem_cons_succ, List.getElem_cons_zero, Act.put, List.setIfInBounds_toArray, List.set_cons_zero, List.set_cons_succ]
          refine' wpAnyH_take (i := 11) (oi := _) (v := _) rfl (by kernel_rfl) (by kernel_rfl) (by kernel_rfl) (fun _ _ _ h => h) (Or.inl ⟨by kernel_rfl, ?_⟩) (by assumption) ?_
          rotate_left
          · (intro w hSw; (try dsimp only at hSw); go_simp; try (with_reducible rfl))
          try simp only [List.getElem_toArray, List.getElem_cons_succ, List.getElem_cons_zero, Act.put, List.setIfInBounds_toArray, List.set_cons_zero, List.set_cons_succ]
          refine' wpAnyH_take (i := 12) (oi := _) (v := _) rfl (by kernel_rfl) (by kernel_rfl) (by kernel_rfl) (fun _ _ _ h => h) (Or.inl ⟨by kernel_rfl, ?_⟩) (by assumption) ?_
          rotate_left
          · (intro w hSw; (try dsimp only at hSw); go_simp; try (with_reducible rfl))
          try simp only [List.getElem_toArray, List.getElem_cons_succ, List.getElem_cons_zero, Act.put, List.setIfInBounds_toArray, List.set_cons_zero, List.set_cons_succ]
          refine' wpAnyH_take (i := 13) (oi := _) (v := _) rfl (by kernel_rfl) (by kernel_rfl) (by kernel_rfl) (fun _ _ _ h => h) (Or.inl ⟨by kernel_rfl, ?_⟩) (by assumption) ?_
          rotate_left
          · (intro w hSw; (try dsimp only at hSw); go_simp; try (with_reducible rfl))
          try simp only [List.getElem_toArray, List.getElem_cons_succ, List.getElem_cons_zero, Act.put, List.setIfInBounds_toArray, List.set_cons_zero, List.set_cons_succ]
          refine' wpAnyH_take (i := 14) (oi := _) (v := _) rfl (by kernel_rfl) (by kernel_rfl) (by kernel_rfl) (fun _ _ _ h => h) (Or.inl ⟨by kernel_rfl, ?_⟩) (by assumption) ?_
          rotate_left
          · (intro w hSw; (try dsimp only at hSw); go_simp; try (with_reducible rfl))
          try simp only [List.getElem_toArray, List.getElem_cons_succ, List.getElem_cons_zero, Act.put, List.setIfInBounds_toArray, List.set_cons_zero, List.set_cons_succ]
          refine' wpAnyH_take (i := 15) (oi := _) (v := _) rfl (by kernel_rfl) (by kernel_rfl) (by kernel_rfl) (fun _ _ _ h => h) (Or.inl ⟨by kernel_rfl, ?_⟩) (by assumption) ?_
          rotate_left
          · (intro w hSw; (try dsimp only at hSw); go_simp; try (with_reducible rfl))
          try simp only [List.getElem_toArray, List.getElem_cons_succ, List.getElem_cons_zero, Act.put, List.setIfInBounds_toArray, List.set_cons_zero, List.set_cons_succ]
          refine' wpAnyH_take (i := 16) (oi := _) (v := _) rfl (by kernel_rfl) (by kernel_rfl) (by kernel_rfl) (fun _ _ _ h => h) (Or.inl ⟨by kernel_rfl, ?_⟩) (by assumption) ?_
          rotate_left
          · (intro w hSw; (try dsimp only at hSw); go_simp; try (with_reducible rfl))
          try simp only [List.getElem_toArray, List.getElem_cons_succ, List.getElem_cons_zero, Act.put, List.setIfInBounds_toArray, List.set_cons_zero, List.set_cons_succ]
          refine' wpAnyH_take (i := 17) (oi := _) (v := _) rfl (by kernel_rfl) (by kernel_rfl) (by kernel_rfl) (fun _ _ _ h => h) (Or.inl ⟨by kernel_rfl, ?_⟩) (by assumption) ?_
          rotate_left
          · (intro w hSw; (try dsimp only at hSw); go_simp; try (with_reducible rfl))
          try simp only [List.getElem_toArray, List.getElem_cons_succ, List.getElem_cons_zero, Act.put, List.setIfInBounds_toArray, List.set_cons_zero, List.set_cons_succ]
          refine' wpAnyH_take (i := 18) (oi := _) (v := _) rfl (by kernel_rfl) (by kernel_rfl) (by kernel_rfl) (fun _ _ _ h => h) (Or.inl ⟨by kernel_rfl, ?_⟩) (by assumption) ?_
          rotate_left
          · (intro w hSw; (try dsimp only at hSw); go_simp; try (with_reducible rfl))
          try simp only [List.getElem_toArray, List.getElem_cons_succ, List.getElem_cons_zero, Act.put, List.setIfInBounds_toArray, List.set_cons_zero, List.set_cons_succ]
          refine' wpAnyH_take (i := 19) (oi := _) (v := _) rfl (by kernel_rfl) (by kernel_rfl) (by kernel_rfl) (fun _ _ _ h => h) (Or.inl ⟨by kernel_rfl, ?_⟩) (by assumption) ?_
          rotate_left
          · (intro w hSw; (try dsimp only at hSw); go_simp; try (with_reducible rfl))
          try simp only [List.getElem_toArray, List.getElem_cons_succ, List.getElem_cons_zero, Act.put, List.setIfInBounds_toArray, List.set_cons_zero, List.set_cons_succ]
          refine' wpAnyH_take (i := 20) (oi := _) (v := _) rfl (by kernel_rfl) (by kernel_rfl) (by kernel_rfl) (fun _ _ _ h => h) (Or.inl ⟨by kernel_rfl, ?_⟩) (by assumption) ?_
          rotate_left
          · (intro w hSw; (try dsimp only at hSw); go_simp; try (with_reducible rfl))
          try simp only [List.getElem_toArray, List.getElem_cons_succ, List.getElem_cons_zero, Act.put, List.setIfInBounds_toArray, List.set_cons_zero, List.set_cons_succ]
          refine' wpAnyH_take (i := 21) (oi := _) (v := _) rfl (by kernel_rfl) (by kernel_rfl) (by kernel_rfl) (fun _ _ _ h => h) (Or.inl ⟨by kernel_rfl, ?_⟩) (by assumption) ?_
          rotate_left
          · (intro w hSw; (try dsimp only at hSw); go_simp; try (with_reducible rfl))
          try simp only [List.getElem_toArray, List.getElem_cons_succ, List.getElem_cons_zero, Act.put, List.setIfInBounds_toArray, List.set_cons_zero, List.set_cons_succ]
          refine wpAnyH_ready (rs := [22]) (by kernel_rfl) (by simp) ?_
          refine (AllReadyH.cons (o := _) rfl (fun K hK => ?_) AllReadyH.nil)
          go_simp
          go_at_call 7
          with_reducible refine (CS.out V3 BV3.out).mono ?_
          rintro e X4 ⟨rfl, DbX4⟩
          have DX4 := hid (btr DV3.out DbX4)
          have BX4 := hid (btr BV3.out DbX4)
          (try go_wp2_with fail)
          refine hK.out _ _ ?_ (fun hHeld => ?_)
          · (try dsimp only); exact ⟨A0.out _ BX4.out, A1.out _ BX4.out, A2.out _ BX4.out, E0.out _ BX4.out, E1.out _ BX4.out, E2.out _ BX4.out⟩
          clear hK K
          try simp only [List.getElem_toArray, List.getElem_cons_succ, List.getElem_cons_zero, Act.put, List.setIfInBounds_toArray, List.set_cons_zero, List.set_cons_succ]
          refine' wpAnyH_take (i := 23) (oi := _) (v := _) rfl (by kernel_rfl) (by kernel_rfl) (by kernel_rfl) (fun _ _ _ h => h) (Or.inl ⟨by kernel_rfl, ?_⟩) (by assumption) ?_
          rotate_left
          · (intro w hSw; (try dsimp only at hSw); go_simp; try (with_reducible rfl))
          try simp only [List.getElem_toArray, List.getElem_cons_succ, List.getElem_cons_zero, Act.put, List.setIfInBounds_toArray, List.set_cons_zero, List.set_cons_succ]
          refine' wpAnyH_take (i := 24) (oi := _) (v := _) rfl (by kernel_rfl) (by kernel_rfl) (by kernel_rfl) (fun _ _ _ h => h) (Or.inl ⟨by kernel_rfl, ?_⟩) (by assumption) ?_
          rotate_left
          · (intro w hSw; (try dsimp only at hSw); go_simp; try (with_reducible rfl))
          try simp only [List.getElem_toArray, List.getElem_cons_succ, List.getElem_cons_zero, Act.put, List.setIfInBounds_toArray, List.set_cons_zero, List.set_cons_succ]
          refine wpAnyH_done (by kernel_rfl) ?_ _
          have BK := hid (btr BJ.out BX4.out)
          clear A0 A1 A2 E0 E1 E2 CS BJ
          go_wp2
          go_roundw
          case rel => exact ⟨j + 1, HLT.out, by go_num, BK⟩
          case measure => have := HLT.out; simp [intOf]; omega
        · obtain rfl : j = sn := by omega
          have jj : ¬ (j : Int) < (j : Int) := by omega
          have C5 := hid cents_5
          have S5 := hid say_5
          clear hlt hjn
          go_upto_region 22 with fail
          go_upto_region 23 with (first | (go_at_call 12; (with_reducible refine (C5.out _).mono ?_); rintro e w3 ⟨rfl, h1⟩; have B3 := hid (btr BJ.out h1); clear h1; obtain ⟨X, hX⟩ : ∃ X, w3.alloc (.cells #[.int .u32 7, .int .u32 0, .int .u64 0, .int .u64 0, .int .u64 0, .int .u64 5] 37) = X := ⟨_, rfl⟩; obtain ⟨x, hx⟩ : ∃ x, w3.heap.size = x := ⟨_, rfl⟩; have BX := hid (show Below w2.heap.size w2 X from btr B3.out (by rw [← hX]; exact ball _ _)); have RX := hid (show X.heap[x]? = some (.cells #[.int .u32 7, .int .u32 0, .int .u64 0, .int .u64 0, .int .u64 0, .int .u64 5] 37 (0, 0)) from by rw [← hX, ← hx]; exact World.alloc_heap_new _ _); have HX := hid hX; have Hx := hid hx; clear hX hx; have H8 := hid (one_run RX.out)) | (go_at_call 8; rw [HX.out, Hx.out]; (with_reducible refine H8.out.mono ?_); rintro e w4 ⟨⟨r4, q4, d4, n4, h1, rfl, h3, h4⟩, hbx⟩; have B4 := hid (btr BX.out hbx); have HQ4 := hid (h3.uniq one_rel); have HN4 := hid h1; have HO4 := hid h4; clear hbx h1 h3 h4))
          have hq4 := HQ4.out
          subst hq4
          have hn4 := HN4.out
          have hn4 : 1 = n4 := hn4
          subst hn4
          obtain ⟨g4, rfl, _, hg4⟩ := own_some HO4.out (by decide)
          have x1 : w4.cell? ⟨g4, 1, none⟩ = some (.int .u64 0) := by
            have h1 := (Dm.own_cells HO4.out).2 1 (.int .u64 0) (by simp [dcs, hi_5])
            rw [Addr.add_lit, Nat.zero_add] at h1
            exact h1
          have x2 : w4.cell? ⟨g4, 2, none⟩ = some (.int .u64 5) := by
            have h1 := (Dm.own_cells HO4.out).2 2 (.int .u64 5) (by simp [dcs, lo_5])
            rw [Addr.add_lit, Nat.zero_add] at h1
            exact h1
          have k4 : 1 ≤ d4 := (own_cap HO4.out).1
          clear hg4
          go_wp2_with (go_at_call 13; with_reducible refine (S5.out _).mono ?_; rintro e w5 ⟨rfl, h1⟩; have B5 := hid (btr B4.out h1); clear h1)
          go_ret
          exact ⟨rfl, BW.out.trans ((btr B02.out B5.out).mono SB.out)⟩
end Go.Proofs.Ytegdhffejmbakaa.Ac
