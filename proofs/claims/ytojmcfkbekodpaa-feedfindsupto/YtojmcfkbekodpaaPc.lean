/-
  An order is enqueued; the order that is dropped; the first one again.
-/
import Derived.Test.YtojmcfkbekodpaaPb
import Derived.Deep.RegionLaw
import Derived.Deep.Cut
namespace Go.Proofs.Ytojmcfkbekodpaa
open Go.RowKit Go.Deep Go.Shelf
set_option linter.unusedVariables false
set_option linter.unusedSimpArgs false
set_option maxHeartbeats 2000000
set_option maxRecDepth 100000
theorem set_row {w : World} {B k : Nat} {row : Array Value} {t : TypeId} (v : Value) (h : w.heap[B]? = some (.cells row t (0, 0))) : (w.setCell ⟨B, k, none⟩ v).heap[B]? = some (.cells (row.setIfInBounds k v) t (0, 0)) := heap_setCell_same w B k row t v h
theorem Li.ty {w : World} {p : Option Addr} {c : Nat} {l : LO} (h : Li w p c l) {g : Nat} (hg : OfP p g) : ∃ cur, w.heap[g]? = Option.some (Obj.cells cur 100 (0, 0)) := by
  subst hg; exact own_ty h.own rfl
theorem li_set {w : World} {p : Option Addr} {c B k : Nat} {l : LO} {row : Array Value} {t : TypeId} {v : Value} (h : Li w p c l) (hB : w.heap[B]? = some (.cells row t (0, 0))) (t1 : t ≠ 100) (t2 : t ≠ 86) : Li (w.setCell ⟨B, k, none⟩ v) p c l :=
  h.kept (Kp.set w B k v) (fun g hg e => by
    obtain ⟨cur, hc⟩ := h.ty hg
    exact row_ne hB hc t1 e.symm) (fun x hx e => row_ne hB (h.at' x hx) t2 e.symm)
theorem drop_any (B k : Nat) (row : Array Value) (p : Option Addr) (c : Nat) (l : LO) (i : Nat) (w : World) (hB : w.heap[B]? = some (.cells row 113 (0, 0))) (hk : row[k]? = some (.slice p l.length c)) (h : Li w p c l) (hi : i < l.length) (hn : l.length ≤ 1048576) (hnd : (l.map (·.1)).Nodup) :
    Calls Try.prog 52 #[.pointer (some ⟨B, k, none⟩), .int .i64 i] w fun e w' => e = .returned (.tuple #[]) ∧ w'.heap[B]? = some (.cells (row.setIfInBounds k (.slice p (l.eraseIdx i).length c)) 113 (0, 0)) ∧ Li w' p c (l.eraseIdx i) ∧ Kp (fun b => b = B ∨ OfP p b) w w' := by
  have C := hid (delete_any p c l i w h hi hnd)
  have cB := row_cell hB k
  rw [hk] at cB
  have i1 : IntKind.i64.wrap ((i : Int) + 1) = (i : Int) + 1 := by rw [IntKind.wrap_i64]; omega
  obtain ⟨g, cur, rfl, hr, _⟩ := h.some (by omega)
  have hne : g ≠ B := row_ne hr hB (by decide)
  have hBg : ¬ OfP (some ⟨g, 0, none⟩) B := fun e => hne e.eq.symm
  have HB := hid hB
  have HK := hid hk
  have HL := hid h
  have HR := hid hr
  clear hB hk h hr
  go_enter Try.func52, Try.ntmps52
  go_wp2_with (go_at_call 71; with_reducible refine (C.out).mono ?_; rintro e w1 ⟨rfl, hli, hkp⟩; have hB1 := hid (hkp.row HB.out hBg); have f1 := row_frz hB1.out k; have c1 := (row_cell hB1.out k).trans HK.out; have H1 := hid hli; have H2 := hid hkp; clear hli hkp)
  go_end0
  exact ⟨rfl, set_row _ hB1.out, li_set H1.out hB1.out (by decide) (by decide), (H2.out.mono (fun _ _ h => Or.inr h)).trans (Kp.set _ _ _ _) (fun g _ h => .inl h)⟩
end Go.Proofs.Ytojmcfkbekodpaa
namespace Go.Proofs.Ytojmcfkbekodpaa
open Go.RowKit Go.Deep Go.Shelf
set_option linter.unusedVariables false
set_option linter.unusedSimpArgs false
set_option maxHeartbeats 2000000
set_option maxRecDepth 100000
/-- an event. -/
structure Ev where
  sq : Int
  kd : Int
  id : Int
  ot : Int
  tg : Int
  mb : Int
  sd : Int
  ty : Int
  pr : Int
  qt : Int
  pk : Int
  rs : Int
  cd : Int
def ecs (e : Ev) : List Value := [.int .u64 e.sq, .int .i64 e.kd, .int .u64 e.id, .int .u64 e.ot, .int .u64 e.tg, .int .u32 e.mb, .int .i64 e.sd, .int .i64 e.ty, .int .i64 e.pr, .int .u64 e.qt, .int .u64 e.pk, .int .i64 e.rs, .int .i64 e.cd]
def evs (l : List Ev) : List Value := l.flatMap ecs
theorem ecs_len (e : Ev) : (ecs e).length = 13 := rfl
theorem evs_len (l : List Ev) : (evs l).length = l.length * 13 := by
  induction l with
  | nil => rfl
  | cons x l ih => simp only [evs, List.flatMap_cons, List.length_append, List.length_cons] at ih ⊢; rw [ih, ecs_len]; omega
theorem evs_snoc (l : List Ev) (e : Ev) : evs (l ++ [e]) = evs l ++ ecs e := by simp [evs]
/-- a book: its numbers, its slices, its orders with their blocks. -/
structure Bs where
  cap : Int
  meet : Int
  p1 : Option Addr
  c1 : Nat
  p2 : Option Addr
  c2 : Nat
  l1 : LO
  l2 : LO
  high : Int
  seq : Int
def Bs.row (b : Bs) : Array Value := #[.int .i64 b.cap, .int .i64 b.meet, .slice b.p1 b.l1.length b.c1, .slice b.p2 b.l2.length b.c2, .int .u64 b.high, .int .u64 b.seq]
structure Bm (w : World) (B : Nat) (b : Bs) : Prop where
  row : w.heap[B]? = some (.cells b.row 113 (0, 0))
  li1 : Li w b.p1 b.c1 b.l1
  li2 : Li w b.p2 b.c2 b.l2
  nd : ((b.l1 ++ b.l2).map (·.1)).Nodup
  ap : ∀ g, OfP b.p1 g → ¬ OfP b.p2 g
/-- the blocks of a book. -/
def Bs.fp (b : Bs) (B j : Nat) : Prop := j = B ∨ OfP b.p1 j ∨ OfP b.p2 j ∨ j ∈ b.l1.map (·.1) ∨ j ∈ b.l2.map (·.1)
theorem Bm.on {w w' : World} {B : Nat} {b : Bs} (h : Bm w B b) (hb : Below w.heap.size w w') : Bm w' B b := ⟨row_on h.row hb, h.li1.on hb, h.li2.on hb, h.nd, h.ap⟩
theorem Bm.kept {w w' : World} {B : Nat} {b : Bs} {S : Nat → Prop} (h : Bm w B b) (hk : Kp S w w') (hS : ∀ j, b.fp B j → ¬ S j) : Bm w' B b :=
  ⟨hk.row h.row (hS _ (.inl rfl)), h.li1.kept hk (fun g hg => hS g (.inr (.inl hg))) (fun x hx => hS _ (.inr (.inr (.inr (.inl (List.mem_map.2 ⟨x, hx, rfl⟩)))))), h.li2.kept hk (fun g hg => hS g (.inr (.inr (.inl hg)))) (fun x hx => hS _ (.inr (.inr (.inr (.inr (List.mem_map.2 ⟨x, hx, rfl⟩)))))), h.nd, h.ap⟩
/-- each block of a book is of one of three kinds. -/
theorem Bm.ty {w : World} {B : Nat} {b : Bs} (h : Bm w B b) {j : Nat} (hj : b.fp B j) : ∃ c t, w.heap[j]? = some (.cells c t (0, 0)) ∧ (t = 113 ∨ t = 100 ∨ t = 86) := by
  rcases hj with rfl | hj | hj | hj | hj
  · exact ⟨_, _, h.row, .inl rfl⟩
  · obtain ⟨c, e⟩ := h.li1.ty hj; exact ⟨_, _, e, .inr (.inl rfl)⟩
  · obtain ⟨c, e⟩ := h.li2.ty hj; exact ⟨_, _, e, .inr (.inl rfl)⟩
  · obtain ⟨x, hx, rfl⟩ := List.mem_map.1 hj; exact ⟨_, _, h.li1.at' x hx, .inr (.inr rfl)⟩
  · obtain ⟨x, hx, rfl⟩ := List.mem_map.1 hj; exact ⟨_, _, h.li2.at' x hx, .inr (.inr rfl)⟩
theorem Bm.ne {w : World} {B k : Nat} {b : Bs} {c : Array Value} {t : TypeId} (h : Bm w B b) (hk : w.heap[k]? = some (.cells c t (0, 0))) (h1 : t ≠ 113) (h2 : t ≠ 100) (h3 : t ≠ 86) {j : Nat} (hj : b.fp B j) : j ≠ k := by
  obtain ⟨c', t', e, ht⟩ := h.ty hj
  refine row_ne e hk ?_
  rcases ht with rfl | rfl | rfl
  · exact Ne.symm h1
  · exact Ne.symm h2
  · exact Ne.symm h3
/-- a cell of the book's own row is written. -/
theorem Bm.put {w : World} {B k : Nat} {b b' : Bs} {v : Value} (h : Bm w B b) (hr : b'.row = b.row.setIfInBounds k v) (e1 : b'.p1 = b.p1) (e2 : b'.c1 = b.c1) (e3 : b'.p2 = b.p2) (e4 : b'.c2 = b.c2) (e5 : b'.l1 = b.l1) (e6 : b'.l2 = b.l2) : Bm (w.setCell ⟨B, k, none⟩ v) B b' := by
  refine ⟨by rw [hr]; exact set_row v h.row, ?_, ?_, by rw [e5, e6]; exact h.nd, by rw [e1, e3]; exact h.ap⟩
  · rw [e1, e2, e5]; exact li_set h.li1 h.row (by decide) (by decide)
  · rw [e3, e4, e6]; exact li_set h.li2 h.row (by decide) (by decide)
/-- a turn: its book, what is told. -/
structure Tn (w : World) (T B : Nat) (b : Bs) (ve : Value) (es : List Ev) : Prop where
  bm : Bm w B b
  row : w.heap[T]? = some (.cells #[.pointer (some ⟨B, 0, none⟩), ve] 80 (0, 0))
  ev : w.ownsRow 0 45 13 ve es.length (evs es)
theorem Tn.on {w w' : World} {T B : Nat} {b : Bs} {ve : Value} {es : List Ev} (h : Tn w T B b ve es) (hb : Below w.heap.size w w') : Tn w' T B b ve es := ⟨h.bm.on hb, row_on h.row hb, own_on h.ev hb⟩
theorem info58all : (Try.prog.info? 45).map (fun i => (i.zero, i.size, i.bytes)) = some (some (.agg #[.int .u64 0, .int .i64 0, .int .u64 0, .int .u64 0, .int .u64 0, .int .u32 0, .int .i64 0, .int .i64 0, .int .i64 0, .int .u64 0, .int .u64 0, .int .i64 0, .int .i64 0]), 13, 104) := by kernel_rfl
theorem ecs_one (e : Ev) : ∀ v ∈ ecs e, v.oneCell' = true := by
  intro v hv
  simp only [ecs, List.mem_cons, List.not_mem_nil, or_false] at hv
  rcases hv with rfl | rfl | rfl | rfl | rfl | rfl | rfl | rfl | rfl | rfl | rfl | rfl | rfl <;> rfl
end Go.Proofs.Ytojmcfkbekodpaa
namespace Go.Proofs.Ytojmcfkbekodpaa
open Go.RowKit Go.Deep Go.Shelf
set_option linter.unusedVariables false
set_option linter.unusedSimpArgs false
set_option maxHeartbeats 4000000
set_option maxRecDepth 100000
def nx (s : Int) : Int := IntKind.u64.wrap (s + 1)
def Bs.told (b : Bs) : Bs := { b with seq := nx b.seq }
def Ev.num (e : Ev) (s : Int) : Ev := { e with sq := s }
/-- the blocks that are told into. -/
def tfp (T B : Nat) (ve : Value) (j : Nat) : Prop := j = T ∨ j = B ∨ ve.ownBlock = some j
theorem own_form {base : Nat} {w : World} {e : TypeId} {size n : Nat} {v : Value} {xs : List Value} (h : w.ownsRow base e size v n xs) : ∃ p c, v = .slice p n c := by
  obtain ⟨_, ⟨rfl, rfl⟩ | ⟨g, c, cur, rfl, _⟩⟩ := h
  · exact ⟨none, 0, rfl⟩
  · exact ⟨_, _, rfl⟩
theorem tell_any (T B : Nat) (b : Bs) (ve : Value) (es : List Ev) (e : Ev) (w : World) (h : Tn w T B b ve es) (hn : es.length ≤ 17179869184) :
    Calls Try.prog 50 #[.pointer (some ⟨T, 0, none⟩), .agg (ecs e).toArray] w fun r w' => r = .returned (.tuple #[]) ∧ ∃ ve', Tn w' T B b.told ve' (es ++ [e.num (nx b.seq)]) ∧ (∀ j, ve'.ownBlock = some j → ve.ownBlock = some j ∨ w.heap.size ≤ j) ∧ Kp (tfp T B ve) w w' := by
  obtain ⟨s, hs⟩ : ∃ s, nx b.seq = s := ⟨_, rfl⟩
  have hs' : IntKind.u64.wrap (b.seq + 1) = s := hs
  obtain ⟨E, hE⟩ : ∃ E, w.heap.size = E := ⟨_, rfl⟩
  obtain ⟨W1, hW1⟩ : ∃ W1, w.alloc (.cells (ecs e).toArray 45) = W1 := ⟨_, rfl⟩
  have hb1 : Below w.heap.size w W1 := by rw [← hW1]; exact ball _ _
  have hE1 : W1.heap[E]? = some (.cells (ecs e).toArray 45 (0, 0)) := by rw [← hW1, ← hE]; exact World.alloc_heap_new _ _
  have h1 := h.on hb1
  obtain ⟨W2, hW2⟩ : ∃ W2, (W1.setCell ⟨B, 5, none⟩ (.int .u64 s)).setCell ⟨E, 0, none⟩ (.int .u64 s) = W2 := ⟨_, rfl⟩
  have hTB : T ≠ B := row_ne h1.row h1.bm.row (by decide)
  have hTE : T ≠ E := row_ne h1.row hE1 (by decide)
  have hBE : B ≠ E := row_ne h1.bm.row hE1 (by decide)
  have hvE : ∀ j, ve.ownBlock = some j → j ≠ E := fun j hj => by obtain ⟨c, hc⟩ := own_ty h.ev hj; have := row_lt hc; omega
  have hvB : ∀ j, ve.ownBlock = some j → j ≠ B := fun j hj => by obtain ⟨c, hc⟩ := own_ty h1.ev hj; exact row_ne hc h1.bm.row (by decide)
  have hvT : ∀ j, ve.ownBlock = some j → j ≠ T := fun j hj => by obtain ⟨c, hc⟩ := own_ty h1.ev hj; exact row_ne hc h1.row (by decide)
  have kW : Kp (fun j => j = B ∨ j = E) W1 W2 := by
    rw [← hW2]
    exact ((Kp.set W1 B 5 _).mono (fun _ _ h => Or.inl h)).trans (Kp.set _ E 0 _) (fun _ _ h => .inr h)
  have hT2 : W2.heap[T]? = some (.cells #[.pointer (some ⟨B, 0, none⟩), ve] 80 (0, 0)) := kW.row h1.row (by rintro (h | h); exact hTB h; exact hTE h)
  have hE2 : W2.heap[E]? = some (.cells (ecs (e.num s)).toArray 45 (0, 0)) := by
    have : (W1.setCell ⟨B, 5, none⟩ (.int .u64 s)).heap[E]? = some (.cells (ecs e).toArray 45 (0, 0)) := (Kp.set W1 B 5 _).row hE1 (fun h => hBE h.symm)
    rw [← hW2, set_row _ this]
    rfl
  have hb2 : Bm W2 B b.told := by
    rw [← hW2]
    have h2 : Bm (W1.setCell ⟨B, 5, none⟩ (.int .u64 s)) B b.told := h1.bm.put (by rw [← hs]; rfl) rfl rfl rfl rfl rfl rfl
    refine h2.kept (Kp.set _ E 0 _) (fun j hj => ?_)
    exact h2.ne (k := E) ((Kp.set W1 B 5 _).row hE1 (fun h => hBE h.symm)) (by decide) (by decide) (by decide) hj
  have hev : W2.ownsRow 0 45 13 ve es.length (evs es) := own_same h1.ev (fun j hj => kW.obj j (by obtain ⟨c, hc⟩ := own_ty h1.ev hj; exact row_lt hc) (by rintro (h | h); exact hvB j hj h; exact hvE j hj h))
  obtain ⟨p, c, rfl⟩ := own_form h.ev
  subst hE
  have HW1 := hid hW1
  have HW2 := hid hW2
  have H1 := hid h1
  have HB2 := hid hb2
  have HT2 := hid hT2
  have HE2 := hid hE2
  have HEV := hid hev
  have HK1 := hid hb1
  have HKW := hid kW
  have HVE := hid hvE
  have HVB := hid hvB
  have HVT := hid hvT
  have HS := hid hs
  have tT := row_cell h1.row 0
  have tB := row_cell h1.bm.row 5
  have fB := row_frz h1.bm.row 5
  have tE := row_cell hE1 0
  have fE := row_frz hE1 0
  simp only [Bs.row, ecs, List.getElem?_toArray, List.getElem?_cons_succ, List.getElem?_cons_zero] at tT tB tE
  clear hW1 hW2 h h1 hb2 hT2 hE2 hev hb1 kW hvE hvB hvT hs hE1
  go_enter Try.func50, Try.ntmps50
  go_upto_region 1 with fail
  rw [HW1.out]
  go_upto_region 3 with fail
  rw [HW2.out]
  obtain ⟨i0, hi0, hz0, hz1, hz2⟩ := info_parts info58all
  have HI := hid hi0
  have HZ0 := hid hz0
  have HZ1 := hid hz1
  have HZ2 := hid hz2
  clear hi0 hz0 hz1 hz2
  have HOX := hid (fun (X : World) (hX : Below W2.heap.size W2 X) => own_on HEV.out hX)
  have HTX := hid (fun (X : World) (hX : Below W2.heap.size W2 X) => row_on HT2.out hX)
  have HNW := hid (fun (X : World) (hX : X.heap[W2.heap.size]? = some (.cells (ecs (e.num s)).toArray 45 (0, 0))) => fun j u (hj : (ecs (e.num s))[j]? = some u) => (show X.cell? ((⟨W2.heap.size, 0, none⟩ : Addr).add j) = some u from by
    rw [Addr.add_lit, Nat.zero_add, row_cell hX]; simpa using hj))
  have tT2 := row_cell HT2.out 1
  have sT := row_lt HT2.out
  have sE := row_lt HE2.out
  have nT : T ≠ W2.heap.size := by omega
  have nE : w.heap.size ≠ W2.heap.size := by omega
  have e0 := row_cell HE2.out 0
  have e1 := row_cell HE2.out 1
  have e2 := row_cell HE2.out 2
  have e3 := row_cell HE2.out 3
  have e4 := row_cell HE2.out 4
  have e5 := row_cell HE2.out 5
  have e6 := row_cell HE2.out 6
  have e7 := row_cell HE2.out 7
  have e8 := row_cell HE2.out 8
  have e9 := row_cell HE2.out 9
  have e10 := row_cell HE2.out 10
  have e11 := row_cell HE2.out 11
  have e12 := row_cell HE2.out 12
  simp only [ecs, List.getElem?_toArray, List.getElem?_cons_succ, List.getElem?_cons_zero] at tT2 e0 e1 e2 e3 e4 e5 e6 e7 e8 e9 e10 e11 e12
  clear tT tB fB tE fE
  go_region_law (refine step_append_lies _ (by rfl) (.tmp 26) (.tmp 28) 34 (by rfl) 0 45 i0 _ 13 104 Try.underlying34 HI.out HZ0.out HZ1.out HZ2.out rfl (by decide) _ es.length (evs es) (by rfl) (HOX.out _ (by first | exact btr (bdrew1 _) (ball _ _) | exact btr (ball _ _) (bdrew1 _))) ⟨W2.heap.size, 0, none⟩ 1 1 (ecs (e.num s)) (by rfl) rfl (HNW.out _ (by first | exact World.alloc_heap_new W2 _ | exact World.alloc_heap_new W2.drew _)) (ecs_one _) (by decide) (by unfold maxLen; omega) (by omega) (Nat.zero_le _) (W2.heap.size + 1) (by simp) ?_; intro g cap w3 hown hgrow hat hlt; have hT3 := hid ((hgrow.block T (by simp; omega) (fun e => HVT.out T e.symm rfl)).trans (HTX.out _ (by first | exact btr (bdrew1 _) (ball _ _) | exact btr (ball _ _) (bdrew1 _)))); have hG := hid (fun j (hj : j < W2.heap.size) (hne : ¬ (Value.slice p es.length c).ownBlock = some j) => (hgrow.block j (by simp; omega) (fun e => hne e.symm)).trans ((show Below W2.heap.size W2 _ from (by first | exact btr (bdrew1 _) (ball _ _) | exact btr (ball _ _) (bdrew1 _))).block j hj)); have hGo := hid (And.intro hgrow.os (And.intro hgrow.tape (And.intro hgrow.output hgrow.size))); have c3 := row_cell hT3.out 1; have f3 := row_frz hT3.out 1; simp only [List.getElem?_toArray, List.getElem?_cons_succ, List.getElem?_cons_zero] at c3; have HOW := hid hown; have HAT := hid hat; clear hown hgrow hat)
  all_goals go_end0
  all_goals (
    have k3 : Kp (fun j => (Value.slice p es.length c).ownBlock = some j) W2 w3 := ⟨hGo.out.1, hGo.out.2.1, hGo.out.2.2.1, Nat.le_trans (by simp) hGo.out.2.2.2, fun j hj hne => hG.out j hj hne⟩
    have k4 : Kp (fun j => j = T ∨ (Value.slice p es.length c).ownBlock = some j) W2 (w3.setCell ⟨T, 1, none⟩ (.slice (some ⟨g, 0, none⟩) (es.length + 1) cap)) := (k3.mono (fun _ _ h => Or.inr h)).trans (Kp.set _ T 1 _) (fun _ _ h => .inl h)
    have gT : g ≠ T := by
      rcases HAT.out with h | h
      · exact HVT.out g h
      · omega
    refine ⟨rfl, .slice (some ⟨g, 0, none⟩) (es.length + 1) cap, ⟨HB2.out.kept k4 (fun j hj => ?_), ?_, ?_⟩, fun j hj => ?_, ?_⟩
    · rintro (h | h)
      · exact HB2.out.ne HT2.out (by decide) (by decide) (by decide) hj h
      · obtain ⟨c', hc⟩ := own_ty HEV.out h
        exact HB2.out.ne hc (by decide) (by decide) (by decide) hj rfl
    · exact set_row _ hT3.out
    · rw [List.length_append, List.length_singleton, evs_snoc, HS.out]
      exact own_same HOW.out (fun j hj => by cases hj; exact heap_setCell_other _ _ _ _ (by show g ≠ T; exact gT))
    · obtain rfl : g = j := Option.some.inj hj
      rcases HAT.out with h | h
      · exact .inl h
      · right
        have a1 := HK1.out.size
        have a2 := HKW.out.size
        omega
    · refine ((Kp.of (tfp T B (.slice p es.length c)) HK1.out).trans HKW.out ?_).trans k4 ?_
      · rintro j hj (h | h)
        · exact .inr (.inl h)
        · omega
      · rintro j hj (h | h)
        · exact .inl h
        · exact .inr (.inr h))
end Go.Proofs.Ytojmcfkbekodpaa
