/-
  RuRl RuSf
-/
import Derived.Test.YtalgndgoedlpoaaRuRq
import Derived.Deep.DrawnRows
import Derived.Test.YtalgndgoedlpoaaRuDb
import Derived.Test.YtalgndgoedlpoaaRuDo
namespace Go.Proofs.Ytalgndgoedlpoaa
section
open Go.RowKit Go.Deep Go.Shelf
set_option linter.unusedVariables false
set_option linter.unusedSimpArgs false
set_option maxHeartbeats 8000000
set_option maxRecDepth 100000
/-- while the document steps: the told, what comes, the two results, the order met. -/
structure Ss (w W : World) (R g : Nat) (tv cv mv : Array Value) : Prop where
 be : Below w.heap.size w W
 t : W.heap[R]? = some (.cells tv 74 (0, 0))
 c : W.heap[R + 1]? = some (.cells cv 78 (0, 0))
 z1 : W.heap[R + 1 + 1]? = some (.cells #[.int .i64 0, .int .i64 0, .slice none 0 0, .slice none 0 0, .int .u64 0, .int .u64 0, .slice none 0 0] 74 (0, 0))
 z2 : W.heap[R + 1 + 1 + 1]? = some (.cells #[.int .u64 0, .int .u64 0, .int .u64 0, .int .u32 0, .int .i64 0, .int .i64 0, .int .i64 0] 78 (0, 0))
 m : W.heap[g]? = some (.cells mv 50 (0, 0))
 r : w.heap.size = R
 gw : w.heap.size ≤ g
theorem Ss.on {w W U : World} {R g : Nat} {tv cv mv : Array Value} (h : Ss w W R g tv cv mv) (hb : Below W.heap.size W U) : Ss w U R g tv cv mv :=
 ⟨btr h.be hb, row_on h.t hb, row_on h.c hb, row_on h.z1 hb, row_on h.z2 hb, row_on h.m hb, h.r, h.gw⟩
theorem Ss.kp {w W U : World} {R g : Nat} {tv cv mv tv' : Array Value} (h : Ss w W R g tv cv mv) (hk : Kp (fun j => j = R) W U) (ht : U.heap[R]? = some (.cells tv' 74 (0, 0))) : Ss w U R g tv' cv mv := by
 have hg : g ≠ R := fun e => row_ne h.m h.t (by decide) e
 exact ⟨h.be.trans (hk.below h.be.size (fun j hj e => by have := h.r; omega)), ht, hk.row h.c (by omega), hk.row h.z1 (by omega), hk.row h.z2 (by omega), hk.row h.m hg, h.r, h.gw⟩
theorem Ss.setT {w W : World} {R g : Nat} {tv cv mv : Array Value} (h : Ss w W R g tv cv mv) (tv' : Array Value) : Ss w (W.setRow R tv') R g tv' cv mv :=
 h.kp (setRow_kp W R tv') (setRow_heap _ _ _ _ 74 (0, 0) h.t)
theorem Ss.setC {w W : World} {R g : Nat} {tv cv mv : Array Value} (h : Ss w W R g tv cv mv) (k : Nat) (v : Value) : Ss w (W.setCell ⟨R + 1, k, none⟩ v) R g tv (cv.setIfInBounds k v) mv := by
 have hk := Kp.set W (R + 1) k v
 have hg : g ≠ R + 1 := fun e => row_ne h.m h.c (by decide) e
 exact ⟨h.be.trans (hk.below h.be.size (fun j hj e => by have := h.r; omega)), hk.row h.t (by omega), set_row _ h.c, hk.row h.z1 (by omega), hk.row h.z2 (by omega), hk.row h.m hg, h.r, h.gw⟩
theorem Ss.setM {w W : World} {R g : Nat} {tv cv mv : Array Value} (h : Ss w W R g tv cv mv) (k : Nat) (v : Value) : Ss w (W.setCell ⟨g, k, none⟩ v) R g tv cv (mv.setIfInBounds k v) := by
 have hk := Kp.set W g k v
 have n0 : R ≠ g := fun e => row_ne h.t h.m (by decide) e
 have n1 : R + 1 ≠ g := fun e => row_ne h.c h.m (by decide) e
 have n2 : R + 1 + 1 ≠ g := fun e => row_ne h.z1 h.m (by decide) e
 have n3 : R + 1 + 1 + 1 ≠ g := fun e => row_ne h.z2 h.m (by decide) e
 exact ⟨h.be.trans (hk.below h.be.size (fun j hj e => by have := h.gw; omega)), hk.row h.t n0, hk.row h.c n1, hk.row h.z1 n2, hk.row h.z2 n3, set_row _ h.m, h.r, h.gw⟩
theorem i74 (a0 a1 a2 a3 a4 a5 a6 : Value) : (Try.prog.info? 74).map (·.size) = some (#[a0, a1, a2, a3, a4, a5, a6] : Array Value).size := info74
theorem s7 (a0 a1 a2 a3 a4 a5 a6 b0 b1 b2 b3 b4 b5 b6 : Value) : (#[a0, a1, a2, a3, a4, a5, a6] : Array Value).size = (#[b0, b1, b2, b3, b4, b5, b6] : Array Value).size := rfl
theorem allT (d : Db) (p : Option Addr) (n c : Nat) : (#[.int .i64 d.cap, .int .i64 d.meet, .slice d.p1 d.o1.length d.c1, .slice d.p2 d.o2.length d.c2, .int .u64 d.high, .int .u64 d.seq, .slice p n c] : Array Value).all (·.oneCell') = true := by simp [Value.oneCell']
theorem set6 {W : World} {R : Nat} {t : TypeId} {a0 a1 a2 a3 a4 a5 a6 : Value} (b0 b1 b2 b3 b4 b5 : Value) (h : W.heap[R]? = some (.cells #[a0, a1, a2, a3, a4, a5, a6] t (0, 0))) :
  ((((((W.setCell ⟨R, 0, none⟩ b0).setCell ⟨R, 1, none⟩ b1).setCell ⟨R, 2, none⟩ b2).setCell ⟨R, 3, none⟩ b3).setCell ⟨R, 4, none⟩ b4).setCell ⟨R, 5, none⟩ b5).heap[R]? = some (.cells #[b0, b1, b2, b3, b4, b5, a6] t (0, 0)) ∧
  Kp (fun j => j = R) W ((((((W.setCell ⟨R, 0, none⟩ b0).setCell ⟨R, 1, none⟩ b1).setCell ⟨R, 2, none⟩ b2).setCell ⟨R, 3, none⟩ b3).setCell ⟨R, 4, none⟩ b4).setCell ⟨R, 5, none⟩ b5) := by
 refine ⟨?_, ?_⟩
 ·rw [set_row _ (set_row _ (set_row _ (set_row _ (set_row _ (set_row _ h)))))]
  rfl
 ·exact (((((Kp.set W R 0 b0).trans (Kp.set _ R 1 b1) (fun _ _ h => h)).trans (Kp.set _ R 2 b2) (fun _ _ h => h)).trans (Kp.set _ R 3 b3) (fun _ _ h => h)).trans (Kp.set _ R 4 b4) (fun _ _ h => h)).trans (Kp.set _ R 5 b5) (fun _ _ h => h)
theorem wo_self {x : Or} {r : List Or} (h : ∀ y ∈ r, y.id ≠ x.id) : wo x.id (x :: r) = r := by
 unfold wo
 rw [List.filter_cons_of_neg (by simp), List.filter_eq_self]
 intro y hy
 simpa using h y hy
theorem put_os (d : Db) {s : Int} (hs : s = 1 ∨ s = 2) (p : Option Addr) (c : Nat) (os : List Or) : (d.put (oth s) p c os).os (oth s) = os ∧ (d.put (oth s) p c os).os s = d.os s ∧ (d.put (oth s) p c os).cap = d.cap ∧ (d.put (oth s) p c os).meet = d.meet ∧ (d.put (oth s) p c os).high = d.high ∧ (d.put (oth s) p c os).seq = d.seq := by
 rcases hs with rfl | rfl <;> exact ⟨rfl, rfl, rfl, rfl, rfl, rfl⟩
/-- what is not one of those blocks stays where a cell of theirs is set. -/
theorem own_set {base : Nat} {W : World} {g k : Nat} {v u : Value} {e t : TypeId} {size n : Nat} {xs : List Value} {cs : Array Value} (h : W.ownsRow base e size u n xs) (hg : W.heap[g]? = some (.cells cs t (0, 0))) (ne : e ≠ t) : (W.setCell ⟨g, k, none⟩ v).ownsRow base e size u n xs :=
 own_same h (fun j hj => by obtain ⟨c, hc⟩ := own_ty h hj; exact (Kp.set W g k v).obj j (row_lt hc) (row_ne hc hg ne))
theorem own_setRow {base : Nat} {W : World} {g : Nat} {u : Value} {e t : TypeId} {size n : Nat} {xs : List Value} {cs cs' : Array Value} (h : W.ownsRow base e size u n xs) (hg : W.heap[g]? = some (.cells cs t (0, 0))) (ne : e ≠ t) : (W.setRow g cs').ownsRow base e size u n xs :=
 own_same h (fun j hj => by obtain ⟨c, hc⟩ := own_ty h hj; exact (setRow_kp W g cs').obj j (row_lt hc) (row_ne hc hg ne))
end
section
open Go.RowKit Go.Deep Go.Shelf
set_option linter.unusedVariables false
set_option linter.unusedSimpArgs false
set_option maxHeartbeats 4000000
set_option maxRecDepth 100000
/-- the book, the command, the result, the told. -/
structure D5 (w W : World) (R g : Nat) (bv cv zv tv : Array Value) : Prop where
 be : Below w.heap.size w W
 b : W.heap[R]? = some (.cells bv 32 (0, 0))
 c : W.heap[R + 1]? = some (.cells cv 39 (0, 0))
 z : W.heap[R + 1 + 1]? = some (.cells zv 32 (0, 0))
 t : W.heap[g]? = some (.cells tv 74 (0, 0))
 r : w.heap.size = R
 l : R + 1 + 1 < g
theorem D5.on {w W U : World} {R g : Nat} {bv cv zv tv : Array Value} (h : D5 w W R g bv cv zv tv) (hb : Below W.heap.size W U) : D5 w U R g bv cv zv tv :=
 ⟨btr h.be hb, row_on h.b hb, row_on h.c hb, row_on h.z hb, row_on h.t hb, h.r, h.l⟩
theorem D5.kp {w W U : World} {R g : Nat} {bv cv zv tv tv' : Array Value} (h : D5 w W R g bv cv zv tv) (hk : Kp (fun j => j = g) W U) (ht : U.heap[g]? = some (.cells tv' 74 (0, 0))) : D5 w U R g bv cv zv tv' := by
 have hl := h.l
 exact ⟨h.be.trans (hk.below h.be.size (fun j hj e => by have := h.r; omega)), hk.row h.b (by omega), hk.row h.c (by omega), hk.row h.z (by omega), ht, h.r, h.l⟩
theorem D5.setT {w W : World} {R g : Nat} {bv cv zv tv : Array Value} (h : D5 w W R g bv cv zv tv) (tv' : Array Value) : D5 w (W.setRow g tv') R g bv cv zv tv' :=
 h.kp (setRow_kp W g tv') (setRow_heap _ _ _ _ 74 (0, 0) h.t)
theorem D5.putT {w W : World} {R g : Nat} {bv cv zv tv : Array Value} (h : D5 w W R g bv cv zv tv) (k : Nat) (v : Value) : D5 w (W.setCell ⟨g, k, none⟩ v) R g bv cv zv (tv.setIfInBounds k v) :=
 h.kp (Kp.set W g k v) (set_row _ h.t)
theorem D5.setZ {w W : World} {R g : Nat} {bv cv zv tv : Array Value} (h : D5 w W R g bv cv zv tv) (zv' : Array Value) : D5 w (W.setRow (R + 1 + 1) zv') R g bv cv zv' tv := by
 have hk := setRow_kp W (R + 1 + 1) zv'
 have hl := h.l
 exact ⟨h.be.trans (hk.below h.be.size (fun j hj e => by have := h.r; omega)), hk.row h.b (by omega), hk.row h.c (by omega), setRow_heap _ _ _ _ 32 (0, 0) h.z, hk.row h.t (by omega), h.r, h.l⟩
/-- another block is changed, behind all these. -/
theorem D5.far {w W U : World} {R g n : Nat} {bv cv zv tv : Array Value} (h : D5 w W R g bv cv zv tv) (hk : Kp (fun j => j = n) W U) (hn : g < n) : D5 w U R g bv cv zv tv := by
 have hl := h.l
 exact ⟨h.be.trans (hk.below h.be.size (fun j hj e => by have := h.r; omega)), hk.row h.b (by omega), hk.row h.c (by omega), hk.row h.z (by omega), hk.row h.t (by omega), h.r, h.l⟩
theorem i32 (a0 a1 a2 a3 a4 a5 : Value) : (Try.prog.info? 32).map (·.size) = some (#[a0, a1, a2, a3, a4, a5] : Array Value).size := info32
theorem s6 (a0 a1 a2 a3 a4 a5 b0 b1 b2 b3 b4 b5 : Value) : (#[a0, a1, a2, a3, a4, a5] : Array Value).size = (#[b0, b1, b2, b3, b4, b5] : Array Value).size := rfl
theorem allB (d : Db) : (#[.int .i64 d.cap, .int .i64 d.meet, .slice d.p1 d.o1.length d.c1, .slice d.p2 d.o2.length d.c2, .int .u64 d.high, .int .u64 d.seq] : Array Value).all (·.oneCell') = true := by simp [Value.oneCell']
theorem rv_none (w : World) : Rv w (.slice none 0 0) [] := ⟨rfl, .inl ⟨rfl, rfl⟩⟩
/-- the lists of a book are all new. -/
def Al (k : Nat) (d : Db) : Prop := (∀ j, OfP d.p1 j → k ≤ j) ∧ (∀ j, OfP d.p2 j → k ≤ j)
theorem Al.mono {k k' : Nat} {d : Db} (h : Al k d) (hk : k' ≤ k) : Al k' d := ⟨fun j hj => Nat.le_trans hk (h.1 j hj), fun j hj => Nat.le_trans hk (h.2 j hj)⟩
theorem Al.nw {k k' : Nat} {d d2 : Db} (h : Al k d) (hn : Nwl k' d d2) (hk : k ≤ k') : Al k d2 :=
 ⟨fun j hj => (hn.1 j hj).elim (h.1 j) (fun e => Nat.le_trans hk e), fun j hj => (hn.2 j hj).elim (h.2 j) (fun e => Nat.le_trans hk e)⟩
theorem Al.put {k : Nat} {d : Db} (h : Al k d) {s : Int} {p : Option Addr} {c : Nat} {os : List Or} (hp : ∀ j, OfP p j → k ≤ j) : Al k (d.put s p c os) := by
 unfold Db.put
 split
 ·exact ⟨hp, h.2⟩
 ·exact ⟨h.1, hp⟩
/-- a copy: for a walk. -/
theorem wcopy (d : Db) (b : Bs) (U : World) (hd : Dof d b) (h : Dm U d) :
  Calls Try.prog 28 #[.agg #[.int .i64 d.cap, .int .i64 d.meet, .slice d.p1 d.o1.length d.c1, .slice d.p2 d.o2.length d.c2, .int .u64 d.high, .int .u64 d.seq]] U fun e w' => ∃ d1 : Db, e = .returned (.agg #[.int .i64 d1.cap, .int .i64 d1.meet, .slice d1.p1 d1.o1.length d1.c1, .slice d1.p2 d1.o2.length d1.c2, .int .u64 d1.high, .int .u64 d1.seq]) ∧ Hid (Dof d1 b) ∧ Hid (Dm w' d1) ∧ Hid (Below U.heap.size U w') ∧ Hid (Al U.heap.size d1) := by
 refine (dcopyN_any d.cap d.meet d.high d.seq d.p1 d.p2 d.o1.length d.o2.length d.c1 d.c2 d.o1 d.o2 U h.r1 h.r2 h.l1 h.l2).mono ?_
 rintro e w' ⟨p1, p2, q1, q2, rfl, k1, k2, k3, k4, k5⟩
 exact ⟨⟨d.cap, d.meet, p1, q1, d.o1, p2, q2, d.o2, d.high, d.seq⟩, rfl, hid ⟨hd.cap, hd.meet, hd.o1, hd.o2, hd.high, hd.seq⟩, hid ⟨k1, k2, h.l1, h.l2⟩, hid k3, hid ⟨k4, k5⟩⟩
/-- a side's orders: for a walk. -/
theorem wsideT (d : Db) (s : Int) (hs : s = 1 ∨ s = 2) (U : World) (h : Dm U d) :
  Calls Try.prog 34 #[.agg #[.int .i64 d.cap, .int .i64 d.meet, .slice d.p1 d.o1.length d.c1, .slice d.p2 d.o2.length d.c2, .int .u64 d.high, .int .u64 d.seq], .int .i64 s] U fun e w' => ∃ p n c, e = .returned (.slice p n c) ∧ Hid ((d.os s).length = n) ∧ Hid (Rw w' (.slice p n c) (d.os s)) ∧ Hid (Below U.heap.size U w') := by
 rcases hs with rfl | rfl
 ·exact wside d 2 1 (by decide) (.inr rfl) U h
 ·exact wside d 1 2 (by decide) (.inl rfl) U h
theorem Dm.setRow' {W : World} {g : Nat} {d : Db} {t : TypeId} {cs cs' : Array Value} (h : Dm W d) (hg : W.heap[g]? = some (.cells cs t (0, 0))) (ne : (50 : TypeId) ≠ t) : Dm (W.setRow g cs') d := ⟨own_setRow h.r1 hg ne, own_setRow h.r2 hg ne, h.l1, h.l2⟩
theorem Dm.set' {W : World} {g k : Nat} {v : Value} {d : Db} {t : TypeId} {cs : Array Value} (h : Dm W d) (hg : W.heap[g]? = some (.cells cs t (0, 0))) (ne : (50 : TypeId) ≠ t) : Dm (W.setCell ⟨g, k, none⟩ v) d := ⟨own_set h.r1 hg ne, own_set h.r2 hg ne, h.l1, h.l2⟩
theorem Dm.told' {W : World} {d : Db} (h : Dm W d) : Dm W d.told := ⟨h.r1, h.r2, h.l1, h.l2⟩
theorem Dof.told' {d : Db} {b : Bs} (h : Dof d b) : Dof d.told b.told := ⟨h.cap, h.meet, h.o1, h.o2, h.high, by show nx d.seq = nx b.seq; rw [h.seq]⟩
/-- the greatest number is set. -/
def Db.hgh (d : Db) (h : Int) : Db := { d with high := h }
theorem Dof.hgh {d : Db} {b : Bs} (h : Dof d b) (i : Int) : Dof (d.hgh i) (b.hgh i) := ⟨h.cap, h.meet, h.o1, h.o2, rfl, h.seq⟩
theorem fnd_got {id : Int} : ∀ {l : LO} {i : Nat}, fnd id l = (i : Int) → ∃ h : i < l.length, (l[i]).2.id = id
 | [], i, h => by
  have h0 : fnd id [] = -1 := rfl
  omega
 | x :: l, i, h => by
  unfold fnd at h
  by_cases e : x.2.id = id
  ·rw [if_pos e] at h
   obtain rfl : i = 0 := by omega
   exact ⟨by simp, by simpa using e⟩
  ·rw [if_neg e] at h
   have hg := (fnd_ge id l).1
   by_cases e1 : fnd id l = -1
   ·rw [if_pos e1] at h
    omega
   ·rw [if_neg e1] at h
    obtain ⟨j, rfl⟩ : ∃ j, i = j + 1 := ⟨i - 1, by omega⟩
    obtain ⟨h1, h2⟩ := fnd_got (id := id) (l := l) (i := j) (by omega)
    exact ⟨by simpa using h1, by simpa using h2⟩
theorem wo_erase {id : Int} : ∀ {l : LO} {i : Nat}, fnd id l = (i : Int) → (l.map (·.2.id)).Nodup → wo id (osl l) = osl (l.eraseIdx i)
 | [], i, h, _ => by
  have h0 : fnd id [] = -1 := rfl
  omega
 | x :: l, i, h, hn => by
  rw [List.map_cons, List.nodup_cons] at hn
  unfold fnd at h
  have hx : osl (x :: l) = x.2 :: osl l := rfl
  by_cases e : x.2.id = id
  ·rw [if_pos e] at h
   obtain rfl : i = 0 := by omega
   rw [hx, ← e, wo_self (fun y hy => ?_)]
   ·rfl
   ·obtain ⟨z, hz, rfl⟩ := List.mem_map.1 hy
    exact fun k => hn.1 (List.mem_map.2 ⟨z, hz, k⟩)
  ·rw [if_neg e] at h
   have hg := (fnd_ge id l).1
   by_cases e1 : fnd id l = -1
   ·rw [if_pos e1] at h
    omega
   ·rw [if_neg e1] at h
    obtain ⟨j, rfl⟩ : ∃ j, i = j + 1 := ⟨i - 1, by omega⟩
    have ih := wo_erase (id := id) (l := l) (i := j) (by omega) hn.2
    have h1 : wo id (x.2 :: osl l) = x.2 :: wo id (osl l) := by
     unfold wo
     rw [List.filter_cons_of_pos (by simpa using e)]
    rw [hx, h1, ih]
    rfl
theorem Fd.one {b : Bs} {id : Int} {o o2 : Or} {s s2 : Int} {k k2 i i2 : Nat} (h : Fd b id o s k i) (h2 : Fd b id o2 s2 k2 i2) : o2 = o ∧ s2 = s ∧ i2 = i := by
 have e := h.ff.symm.trans h2.ff
 simp only [Prod.mk.injEq] at e
 obtain ⟨e1, e2, _⟩ := e
 subst e1
 subst e2
 have := h.fi.symm.trans h2.fi
 exact ⟨rfl, rfl, by omega⟩
theorem Fd.oid {b : Bs} {id : Int} {o : Or} {s : Int} {k i : Nat} (h : Fd b id o s k i) : o.id = id := by
 have hff := h.ff
 unfold fo at hff
 split at hff
 ·rename_i h0
  have hg := fnd_ge id b.l1
  obtain ⟨h1, h2⟩ := fnd_got (id := id) (l := b.l1) (i := (fnd id b.l1).toNat) (by omega)
  have := congrArg (fun z => z.1) hff
  simp only at this
  rw [← this]
  exact h2
 ·split at hff
  ·rename_i h0
   have hg := fnd_ge id b.l2
   obtain ⟨h1, h2⟩ := fnd_got (id := id) (l := b.l2) (i := (fnd id b.l2).toNat) (by omega)
   have := congrArg (fun z => z.1) hff
   simp only at this
   rw [← this]
   exact h2
  ·simp at hff
theorem ids_side {b : Bs} (v : Vb b) (s : Int) : ((b.sl s).map (·.2.id)).Nodup := by
 have hi := v.ids
 unfold Ids at hi
 rw [List.map_append, List.nodup_append] at hi
 unfold Bs.sl
 split
 ·exact hi.1
 ·exact hi.2.1
theorem dof_del {d : Db} {b : Bs} {id : Int} {o : Or} {s : Int} {k i : Nat} (h : Dof d b) (v : Vb b) (f : Fd b id o s k i) (p : Option Addr) (c : Nat) : Dof (d.put s p c (wo id (d.os s))) (b.del s i) := by
 have e : wo id (d.os s) = osl ((b.sl s).eraseIdx i) := by rw [h.os s]; exact wo_erase f.fi (ids_side v s)
 rw [e]
 unfold Bs.del
 rcases f.side with rfl | rfl
 ·exact ⟨h.cap, h.meet, rfl, h.o2, h.high, h.seq⟩
 ·exact ⟨h.cap, h.meet, h.o1, rfl, h.high, h.seq⟩
theorem del_told (b : Bs) (s : Int) (i : Nat) : b.told.del s i = (b.del s i).told := by
 by_cases h : s = 1
 ·simp [Bs.del, Bs.put, Bs.told, Bs.sl, Bs.sp, Bs.sc, h]
 ·simp [Bs.del, Bs.put, Bs.told, Bs.sl, Bs.sp, Bs.sc, h]
theorem did_ref {b : Bs} {c : Cm} {b' : Bs} {es' : List Ev} (h : Did b c b' es') (hy : rfs b c ≠ 0) : b' = b.told ∧ es' = [(evR c (rfs b c)).num (nx b.seq)] := by
 rcases h with ⟨_, h1, h2⟩ | ⟨h0, _⟩ | ⟨h0, _⟩ | ⟨h0, _⟩
 ·exact ⟨h1, h2⟩
 ·exact absurd h0 hy
 ·exact absurd h0 hy
 ·exact absurd h0 hy
theorem did_can {b : Bs} {c : Cm} {b' : Bs} {es' : List Ev} (h : Did b c b' es') (hy : rfs b c = 0) (hk : c.kd = 2) {o : Or} {s : Int} {k i : Nat} (f : Fd b c.tg o s k i) : b' = (b.del s i).told ∧ es' = [(evC o.id (o.vi + o.hi) 1).num (nx b.seq)] := by
 rcases h with ⟨h0, _⟩ | ⟨_, _, o2, s2, k2, i2, f2, h1, h2⟩ | ⟨_, h0, _⟩ | ⟨_, h0, _⟩
 ·exact absurd hy h0
 ·obtain ⟨rfl, rfl, rfl⟩ := f.one f2
  rw [f2.oid]
  exact ⟨h1, h2⟩
 ·omega
 ·omega
theorem did_new {b : Bs} {c : Cm} {b' : Bs} {es' : List Ev} (h : Did b c b' es') (hy : rfs b c = 0) (hk : c.kd = 1) : Took b [] (ord c) c.sd c.qt b' es' := by
 have e : cmN b c = c := by unfold cmN; rw [if_neg (by omega)]
 rcases h with ⟨h0, _⟩ | ⟨_, h0, _⟩ | ⟨_, _, h1⟩ | ⟨_, h0, _⟩
 ·exact absurd hy h0
 ·omega
 ·rw [e] at h1; exact h1
 ·omega
theorem did_rep {b : Bs} {c : Cm} {b' : Bs} {es' : List Ev} (h : Did b c b' es') (hy : rfs b c = 0) (hk : c.kd = 3) {o : Or} {s : Int} {k i : Nat} (f : Fd b c.tg o s k i) : Took (b.del s i).told [(evC o.id (o.vi + o.hi) 2).num (nx b.seq)] ⟨c.id, o.mb, o.ty, c.pr, 0, 0, c.pk⟩ s c.qt b' es' := by
 rcases h with ⟨h0, _⟩ | ⟨_, h0, _⟩ | ⟨_, h0, _⟩ | ⟨_, _, o2, s2, k2, i2, f2, h1⟩
 ·exact absurd hy h0
 ·omega
 ·omega
 ·obtain ⟨rfl, rfl, rfl⟩ := f.one f2
  have e : cmN b c = { c with mb := o2.mb, sd := s2, ty := o2.ty } := by unfold cmN; rw [if_pos hk, f2.ff]
  rw [e] at h1
  rw [f2.oid]
  exact h1
end
end Go.Proofs.Ytalgndgoedlpoaa
