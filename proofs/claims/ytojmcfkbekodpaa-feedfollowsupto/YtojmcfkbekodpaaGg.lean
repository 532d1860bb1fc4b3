/-
  RuX
-/
import Derived.Test.YtojmcfkbekodpaaRuW
import Derived.Test.YtojmcfkbekodpaaRuFe
import Derived.Test.YtojmcfkbekodpaaGd
import Derived.Laws.MakeOwn
namespace Go.Proofs.Ytojmcfkbekodpaa
open Go.RowKit Go.Deep Go.Shelf
set_option linter.unusedVariables false
set_option linter.unusedSimpArgs false
set_option maxHeartbeats 8000000
set_option maxRecDepth 100000
attribute [local go_sem ↓] Go.wp_at_zero Go.wp_at_succ
/-- an order meets the others, at most so often. -/
def cms (o : Or) (s : Int) : Nat → Bs × List Ev × Int → Bs × List Ev × Int
  | 0, c => c
  | n + 1, c => if 0 < c.2.2 ∧ mts c.1 o s = true then
      match c.1.sl (oth s) with
      | [] => c
      | y :: r => cms o s n ((mtB c.1 o s c.2.2 y.1 y.2 r).1, c.2.1 ++ (mtB c.1 o s c.2.2 y.1 y.2 r).2.1, (mtB c.1 o s c.2.2 y.1 y.2 r).2.2)
    else c
theorem cms_end {o : Or} {s : Int} {n : Nat} {c : Bs × List Ev × Int} (h : ¬ (0 < c.2.2 ∧ mts c.1 o s = true)) : cms o s n c = c := by
  cases n with
  | zero => rfl
  | succ n => unfold cms; rw [if_neg h]
theorem cms_step {o : Or} {s : Int} {n : Nat} {b : Bs} {es : List Ev} {q : Int} {f : Nat} {x : Or} {r : LO} (h : 0 < q ∧ mts b o s = true) (hl : b.sl (oth s) = (f, x) :: r) : cms o s (n + 1) (b, es, q) = cms o s n ((mtB b o s q f x r).1, es ++ (mtB b o s q f x r).2.1, (mtB b o s q f x r).2.2) := by
  conv => lhs; unfold cms
  rw [if_pos h]
  simp only [hl]
theorem mts_cons {b : Bs} {o : Or} {s : Int} (h : mts b o s = true) : ∃ f x r, b.sl (oth s) = (f, x) :: r := by
  unfold mts at h
  cases hl : b.sl (oth s) with
  | nil => rw [hl] at h; cases h
  | cons y r => exact ⟨y.1, y.2, r, rfl⟩
/-- how much is still to come, by what lies in memory. -/
def mea (O B k : Nat) (W : World) : Nat :=
  (match W.cell? ⟨O, 8, none⟩ with | some (.int _ q) => q.toNat | _ => 0) + (match W.cell? ⟨B, 2 + k, none⟩ with | some (.slice _ n _) => n | _ => 0)
theorem Cg.mea {w0 : World} {F : Nat → Prop} {T B O : Nat} {b : Bs} {ve : Value} {es : List Ev} {o : Or} {s q : Int} {W : World} {k : Nat} (h : Cg w0 F T B O b ve es o s q W) (hk : oth s = (k : Int) + 1) (hk2 : k < 2) : mea O B k W = mes b s q := by
  have a := row_cell h.ow 8
  simp only [crow, List.getElem?_toArray, List.getElem?_cons_succ, List.getElem?_cons_zero] at a
  have c := (row_cell h.tn.bm.row (2 + k)).trans (Bs.rowk hk hk2)
  unfold Go.Proofs.Ytojmcfkbekodpaa.mea mes
  rw [a, c]
/-- what stands at the head of a round. -/
structure Rl (w0 : World) (F : Nat → Prop) (T B O : Nat) (o : Or) (s : Int) (N : Nat) (c0 : Bs × List Ev × Int) (W : World) (b : Bs) (ve : Value) (es : List Ev) (q : Int) : Prop where
  cg : Cg w0 F T B O b ve es o s q W
  vb : Vb b
  q0 : 0 ≤ q
  q1 : q < 4294967296
  le : es.length + 2 * mes b s q ≤ 17179869180
  cm : ∃ n, mes b s q < n ∧ cms o s n (b, es, q) = cms o s N c0
  own : b.sl s = c0.1.sl s ∧ b.sp s = c0.1.sp s ∧ b.sc s = c0.1.sc s
theorem oth_oth {s : Int} (hs : s = 1 ∨ s = 2) : oth (oth s) = s := by rcases hs with rfl | rfl <;> simp [oth]
theorem put_own (b : Bs) {s : Int} (hs : s = 1 ∨ s = 2) (p : Option Addr) (c : Nat) (l : LO) : (b.put (oth s) p c l).sl s = b.sl s ∧ (b.put (oth s) p c l).sp s = b.sp s ∧ (b.put (oth s) p c l).sc s = b.sc s := by
  have h := b.put_so (oth s) (oth_side hs) p c l
  rw [oth_oth hs] at h
  exact h
theorem mtB_own {b : Bs} {o : Or} {s q : Int} {f : Nat} {x : Or} {r : LO} (hs : s = 1 ∨ s = 2) : (mtB b o s q f x r).1.sl s = b.sl s ∧ (mtB b o s q f x r).1.sp s = b.sp s ∧ (mtB b o s q f x r).1.sc s = b.sc s := by
  unfold mtB
  split
  · have h := put_own (trb b x (min q x.vi)) hs (b.sp (oth s)) (b.sc (oth s)) (trl (oth s) f x r (min q x.vi))
    have h2 : (trb b x (min q x.vi)).sl s = b.sl s ∧ (trb b x (min q x.vi)).sp s = b.sp s ∧ (trb b x (min q x.vi)).sc s = b.sc s := by
      unfold trb
      split
      · exact ⟨rfl, rfl, rfl⟩
      · split <;> exact ⟨rfl, rfl, rfl⟩
    simp only
    rw [h.1, h.2.1, h.2.2]
    exact h2
  · split
    · exact ⟨rfl, rfl, rfl⟩
    · split
      · exact put_own b hs _ _ _
      · exact put_own b hs _ _ _
theorem Rl.next {w0 : World} {F : Nat → Prop} {T B O : Nat} {o : Or} {s : Int} {N : Nat} {c0 : Bs × List Ev × Int} {W W' : World} {b : Bs} {ve ve' : Value} {es : List Ev} {q : Int} (h : Rl w0 F T B O o s N c0 W b ve es q) (hs : s = 1 ∨ s = 2) (hq : 0 < q) (hm : mts b o s = true) {f : Nat} {x : Or} {r : LO} (hl : b.sl (oth s) = (f, x) :: r)
    (hc : Cg w0 F T B O (mtB b o s q f x r).1 ve' (es ++ (mtB b o s q f x r).2.1) o s (mtB b o s q f x r).2.2 W') : Rl w0 F T B O o s N c0 W' (mtB b o s q f x r).1 ve' (es ++ (mtB b o s q f x r).2.1) (mtB b o s q f x r).2.2 ∧ mes (mtB b o s q f x r).1 s (mtB b o s q f x r).2.2 < mes b s q := by
  obtain ⟨v, m, e, a, c⟩ := h.vb.met (o := o) hs hl hq
  have h1 := h.q1
  have h2 := h.le
  obtain ⟨n, hn, hcm⟩ := h.cm
  have ho := mtB_own (b := b) (o := o) (q := q) (f := f) (x := x) (r := r) hs
  refine ⟨⟨hc, v, a, by omega, by rw [List.length_append]; omega, ?_, by rw [ho.1, ho.2.1, ho.2.2]; exact h.own⟩, m⟩
  obtain ⟨n', rfl⟩ : ∃ n', n = n' + 1 := ⟨n - 1, by omega⟩
  rw [cms_step ⟨hq, hm⟩ hl] at hcm
  exact ⟨n', by omega, hcm⟩
/-- all that a turn knows. -/
def gfp (b : Bs) (T B : Nat) (ve : Value) (j : Nat) : Prop := tfp T B ve j ∨ b.fp B j
/-- a turn on its way. -/
structure Td (w0 : World) (G : Nat → Prop) (T B : Nat) (b : Bs) (ve : Value) (es : List Ev) (w : World) : Prop where
  tn : Tn w T B b ve es
  kp : Kp G w0 w
  fr : ∀ j, gfp b T B ve j → G j ∨ w0.heap.size ≤ j
theorem fp_iff {b : Bs} {B j : Nat} {s : Int} (hs : s = 1 ∨ s = 2) : b.fp B j ↔ j = B ∨ OfP (b.sp s) j ∨ OfP (b.sp (oth s)) j ∨ j ∈ (b.sl s).map (·.1) ∨ j ∈ (b.sl (oth s)).map (·.1) := by
  unfold Bs.fp
  rcases hs with rfl | rfl
  · exact Iff.rfl
  · show _ ↔ j = B ∨ OfP b.p2 j ∨ OfP b.p1 j ∨ j ∈ b.l2.map (·.1) ∨ j ∈ b.l1.map (·.1)
    constructor
    · rintro (h | h | h | h | h)
      · exact .inl h
      · exact .inr (.inr (.inl h))
      · exact .inr (.inl h)
      · exact .inr (.inr (.inr (.inr h)))
      · exact .inr (.inr (.inr (.inl h)))
    · rintro (h | h | h | h | h)
      · exact .inl h
      · exact .inr (.inr (.inl h))
      · exact .inr (.inl h)
      · exact .inr (.inr (.inr (.inr h)))
      · exact .inr (.inr (.inr (.inl h)))
theorem Rl.td {w0 : World} {T B : Nat} {o : Or} {s : Int} {N : Nat} {b0 : Bs} {ve0 : Value} {es0 : List Ev} {q0 : Int} {W : World} {b : Bs} {ve : Value} {es : List Ev} {q : Int} (hs : s = 1 ∨ s = 2) (h : Rl w0 (ffp b0 T B w0.heap.size ve0 s) T B w0.heap.size o s N (b0, es0, q0) W b ve es q) : Td w0 (gfp b0 T B ve0) T B b ve es W := by
  have hin : ∀ j, ffp b0 T B w0.heap.size ve0 s j → gfp b0 T B ve0 j ∨ w0.heap.size ≤ j := by
    rintro j (h' | h' | h' | h')
    · exact .inl (.inl h')
    · exact .inl (.inr ((fp_iff hs).2 (.inr (.inr (.inl h')))))
    · exact .inl (.inr ((fp_iff hs).2 (.inr (.inr (.inr (.inr h'))))))
    · exact .inr (by omega)
  have go : ∀ j, ffp b T B w0.heap.size ve s j → gfp b0 T B ve0 j ∨ w0.heap.size ≤ j := fun j hj => (h.cg.fr j hj).elim (hin j) .inr
  refine ⟨h.cg.tn, h.cg.kp.mono (fun j hj hF => (hin j hF).resolve_right (by omega)), ?_⟩
  rintro j (h' | h')
  · exact go j (.inl h')
  · rcases (fp_iff hs).1 h' with e | e | e | e | e
    · exact .inl (.inr (.inl e))
    · rw [h.own.2.1] at e; exact .inl (.inr ((fp_iff hs).2 (.inr (.inl e))))
    · exact go j (.inr (.inl e))
    · rw [h.own.1] at e; exact .inl (.inr ((fp_iff hs).2 (.inr (.inr (.inr (.inl e))))))
    · exact go j (.inr (.inr (.inl e)))
theorem Td.on {w0 : World} {G : Nat → Prop} {T B : Nat} {b : Bs} {ve : Value} {es : List Ev} {w w' : World} (h : Td w0 G T B b ve es w) (hb : Below w.heap.size w w') : Td w0 G T B b ve es w' :=
  ⟨h.tn.on hb, h.kp.trans (Kp.of (fun _ => False) hb) (fun _ _ h => h.elim), h.fr⟩
theorem Td.keep {w0 : World} {G : Nat → Prop} {T B : Nat} {b : Bs} {ve : Value} {es : List Ev} {w w' : World} {S : Nat → Prop} (h : Td w0 G T B b ve es w) (hk : Kp S w w') (hS : ∀ j, S j → gfp b T B ve j) : Kp G w0 w' :=
  h.kp.trans hk (fun j hj hs => (h.fr j (hS j hs)).resolve_right (by omega))
theorem Td.told {w0 : World} {G : Nat → Prop} {T B : Nat} {b : Bs} {ve : Value} {es es' : List Ev} {w w' : World} (h : Td w0 G T B b ve es w) (ht : Told w T B b.told ve es' (tfp T B ve) w') : ∃ ve', Td w0 G T B b.told ve' es' w' := by
  obtain ⟨ve', h1, h2, h3⟩ := ht
  have sz := h.kp.size
  refine ⟨ve', h1, h.keep h3 (fun j hj => .inl hj), ?_⟩
  rintro j ((e | e | e) | e)
  · exact h.fr j (.inl (.inl e))
  · exact h.fr j (.inl (.inr (.inl e)))
  · rcases h2 j e with h' | h'
    · exact h.fr j (.inl (.inr (.inr h')))
    · exact .inr (by omega)
  · exact h.fr j (.inr e)
theorem Td.aside {w0 : World} {G : Nat → Prop} {T B O : Nat} {b : Bs} {ve : Value} {es : List Ev} {w w' : World} {c : Array Value} (h : Td w0 G T B b ve es w) (hO : w.heap[O]? = some (.cells c 88 (0, 0))) (hf : w0.heap.size ≤ O) (hk : Kp (fun j => j = O) w w') : Td w0 G T B b ve es w' := by
  refine ⟨⟨h.tn.bm.kept hk (fun j hj => h.tn.bm.ne hO (by decide) (by decide) (by decide) hj), hk.row h.tn.row (row_ne h.tn.row hO (by decide)), own_same h.tn.ev (fun j hj => ?_)⟩, h.kp.trans hk (fun j hj e => by omega), h.fr⟩
  obtain ⟨c', e⟩ := own_ty h.tn.ev hj
  exact hk.obj j (row_lt e) (row_ne e hO (by decide))
/-- a side's list is another one. -/
theorem Td.list {w0 : World} {G : Nat → Prop} {T B : Nat} {b : Bs} {ve : Value} {es : List Ev} {w w' : World} {s : Int} (hs : s = 1 ∨ s = 2) {p : Option Addr} {c : Nat} {l : LO} (h : Td w0 G T B b ve es w) (hk : Kp (sfp b B s) w w') (hb : Bm w' B (b.put s p c l)) (hp : ∀ g, OfP p g → OfP (b.sp s) g ∨ w.heap.size ≤ g) (hm : ∀ y ∈ l, y ∈ b.sl s ∨ w.heap.size ≤ y.1) : Td w0 G T B (b.put s p c l) ve es w' := by
  have sz := h.kp.size
  have hin : ∀ j, sfp b B s j → gfp b T B ve j := by
    rintro j (h' | h')
    · exact .inr (.inl h')
    · exact .inr ((fp_iff hs).2 (.inr (.inl h')))
  refine ⟨h.tn.list (k := 0) hk hb, h.keep hk hin, ?_⟩
  rintro j (h' | h')
  · exact h.fr j (.inl h')
  · have e1 := b.put_sl s hs p c l
    have e2 := b.put_so s hs p c l
    rcases (fp_iff hs).1 h' with e | e | e | e | e
    · exact h.fr j (.inr (.inl e))
    · rw [e1.2.1] at e
      rcases hp j e with h'' | h''
      · exact h.fr j (.inr ((fp_iff hs).2 (.inr (.inl h''))))
      · exact .inr (by omega)
    · rw [e2.2.1] at e; exact h.fr j (.inr ((fp_iff hs).2 (.inr (.inr (.inl e)))))
    · rw [e1.1] at e
      obtain ⟨y, hy, rfl⟩ := List.mem_map.1 e
      rcases hm y hy with h'' | h''
      · exact h.fr _ (.inr ((fp_iff hs).2 (.inr (.inr (.inr (.inl (List.mem_map.2 ⟨y, h'', rfl⟩)))))))
      · exact .inr (by omega)
    · rw [e2.1] at e; exact h.fr j (.inr ((fp_iff hs).2 (.inr (.inr (.inr (.inr e))))))
/-- what became of a book when an order has come. -/
def Came (o : Or) (s : Int) (c : Bs × List Ev × Int) (n : Nat) (b' : Bs) (es' : List Ev) : Prop :=
  (c.2.2 = 0 ∧ b' = c.1 ∧ es' = c.2.1) ∨
  (0 < c.2.2 ∧ rst o.ty = true ∧ es' = c.2.1 ∧ ∃ p' c' blk, n ≤ blk ∧ b' = c.1.put s p' c' (ins (bhd s o.pr (c.1.sl s)) (blk, { o with vi := (shw o.pk c.2.2).1, hi := (shw o.pk c.2.2).2 }) (c.1.sl s))) ∨
  (0 < c.2.2 ∧ rst o.ty = false ∧ b' = c.1.told ∧ es' = c.2.1 ++ [(evC o.id c.2.2 3).num (nx c.1.seq)])
theorem Rl.done {w0 : World} {F : Nat → Prop} {T B O : Nat} {o : Or} {s : Int} {N : Nat} {c0 : Bs × List Ev × Int} {W : World} {b : Bs} {ve : Value} {es : List Ev} {q : Int} (h : Rl w0 F T B O o s N c0 W b ve es q) (he : ¬ (0 < q ∧ mts b o s = true)) : cms o s N c0 = (b, es, q) := by
  obtain ⟨n, _, hn⟩ := h.cm
  rw [← hn]
  exact cms_end he
theorem come_any (T B : Nat) (b0 : Bs) (ve0 : Value) (es0 : List Ev) (o : Or) (s q0 : Int) (w : World) (htn : Tn w T B b0 ve0 es0) (hv : Vb b0) (hs : s = 1 ∨ s = 2) (hq0 : 0 ≤ q0) (hq1 : q0 < 4294967296) (hle : es0.length + 2 * mes b0 s q0 ≤ 17179869180) (hpk : 0 ≤ o.pk) :
    Calls Try.prog 56 #[.pointer (some ⟨T, 0, none⟩), .agg (crow o s q0)] w fun e w' => e = .returned (.tuple #[]) ∧ ∃ b' ve' es', Td w (gfp b0 T B ve0) T B b' ve' es' w' ∧ Came o s (cms o s (mes b0 s q0 + 1) (b0, es0, q0)) w.heap.size b' es' := by
  obtain ⟨k, hk, hks⟩ : ∃ k : Nat, k < 2 ∧ oth s = (k : Int) + 1 := by
    rcases hs with rfl | rfl
    · exact ⟨1, by decide, rfl⟩
    · exact ⟨0, by decide, rfl⟩
  obtain ⟨O, hO⟩ : ∃ O, w.heap.size = O := ⟨_, rfl⟩
  obtain ⟨F, hF⟩ : ∃ F, ffp b0 T B O ve0 s = F := ⟨_, rfl⟩
  obtain ⟨N, hN⟩ : ∃ N, mes b0 s q0 + 1 = N := ⟨_, rfl⟩
  obtain ⟨W0, hW0⟩ : ∃ W0, w.alloc (.cells (crow o s q0) 88) = W0 := ⟨_, rfl⟩
  have hb0 : Below w.heap.size w W0 := by rw [← hW0]; exact ball _ _
  have R0 := hid (show Rl w F T B O o s N (b0, es0, q0) W0 b0 ve0 es0 q0 from
    ⟨⟨htn.on hb0, by rw [← hW0, ← hO]; exact World.alloc_heap_new _ _, Kp.of _ hb0, fun j hj => .inl (by rw [← hF]; exact hj)⟩, hv, hq0, hq1, hle, ⟨N, by omega, rfl⟩, rfl, rfl, rfl⟩)
  have HW0 := hid hW0
  have HKS := hid hks
  have HS := hid hs
  have HNE := hid hN
  have HPK := hid hpk
  have HOZ := hid hO
  have HTD0 := hid (fun (U : World) (b : Bs) (ve : Value) (es : List Ev) (q : Int) (hU : Rl w F T B O o s N (b0, es0, q0) U b ve es q) => (show Td w (gfp b0 T B ve0) T B b ve es U from by
    rw [← hF, ← hO] at hU
    exact hU.td hs))
  clear htn hv hks hle hN hF hW0 hb0 hq0 hq1 hs hpk
  have HCR := hid (fun (U : World) (b : Bs) (ve : Value) (es : List Ev) (q : Int) (hU : Rl w F T B O o s N (b0, es0, q0) U b ve es q) => (show (U.cell? ⟨O, 0, none⟩ = some (.int .u64 o.id) ∧ U.cell? ⟨O, 1, none⟩ = some (.int .u32 o.mb) ∧ U.cell? ⟨O, 2, none⟩ = some (.int .i64 o.ty) ∧ U.cell? ⟨O, 3, none⟩ = some (.int .i64 o.pr) ∧ U.cell? ⟨O, 4, none⟩ = some (.int .u64 o.vi) ∧ U.cell? ⟨O, 5, none⟩ = some (.int .u64 o.hi) ∧ U.cell? ⟨O, 6, none⟩ = some (.int .u64 o.pk) ∧ U.cell? ⟨O, 7, none⟩ = some (.int .i64 s) ∧ U.cell? ⟨O, 8, none⟩ = some (.int .u64 q)) ∧ U.cell? ⟨T, 0, none⟩ = some (.pointer (some ⟨B, 0, none⟩)) from by
    have a := hU.cg.ow
    have a0 := row_cell a 0
    have a1 := row_cell a 1
    have a2 := row_cell a 2
    have a3 := row_cell a 3
    have a4 := row_cell a 4
    have a5 := row_cell a 5
    have a6 := row_cell a 6
    have a7 := row_cell a 7
    have a8 := row_cell a 8
    have t := row_cell hU.cg.tn.row 0
    simp only [crow, List.getElem?_toArray, List.getElem?_cons_succ, List.getElem?_cons_zero] at a0 a1 a2 a3 a4 a5 a6 a7 a8 t
    exact ⟨⟨a0, a1, a2, a3, a4, a5, a6, a7, a8⟩, t⟩))
  unfold crow
  go_enter Try.func56, Try.ntmps56
  go_upto_region 1 with fail
  have e0 := HW0.out
  unfold crow at e0
  rw [e0]
  clear e0
  go_loopw [] (fun wr => ∃ b ve es q, Hid (Rl w F T B O o s N (b0, es0, q0) wr b ve es q)) (fun wr => mea O B k wr)
  case atStart => exact ⟨b0, ve0, es0, q0, R0.out⟩
  case round =>
    obtain ⟨b, ve, es, q, HR⟩ := hrel
    obtain ⟨⟨a0, a1, a2, a3, a4, a5, a6, a7, a8⟩, t0⟩ := HCR.out wr b ve es q HR.out
    have hq := HR.out.q0
    have hq' := HR.out.q1
    by_cases q0' : 0 < q
    · have HME := hid (fun (U : World) (hU : Below wr.heap.size wr U) => meets_any B b o s q U (HR.out.cg.tn.bm.on hU) HS.out HR.out.vb.len)
      obtain ⟨mv, hmv⟩ : ∃ v, mts b o s = v := ⟨_, rfl⟩
      rw [hmv] at HME
      unfold crow at HME
      have HMV := hid hmv
      clear hmv
      have HKK := hid (fun (U : World) (hU : Below wr.heap.size wr U) => (show U.cell? ⟨O, 0, none⟩ = some (.int .u64 o.id) ∧ U.cell? ⟨O, 1, none⟩ = some (.int .u32 o.mb) ∧ U.cell? ⟨O, 2, none⟩ = some (.int .i64 o.ty) ∧ U.cell? ⟨O, 3, none⟩ = some (.int .i64 o.pr) ∧ U.cell? ⟨O, 4, none⟩ = some (.int .u64 o.vi) ∧ U.cell? ⟨O, 5, none⟩ = some (.int .u64 o.hi) ∧ U.cell? ⟨O, 6, none⟩ = some (.int .u64 o.pk) ∧ U.cell? ⟨O, 7, none⟩ = some (.int .i64 s) ∧ U.cell? ⟨O, 8, none⟩ = some (.int .u64 q) ∧ U.cell? ⟨T, 0, none⟩ = some (.pointer (some ⟨B, 0, none⟩)) from by
        have sO := row_lt HR.out.cg.ow
        have sT := row_lt HR.out.cg.tn.row
        exact ⟨(hU.cell sO).trans a0, (hU.cell sO).trans a1, (hU.cell sO).trans a2, (hU.cell sO).trans a3, (hU.cell sO).trans a4, (hU.cell sO).trans a5, (hU.cell sO).trans a6, (hU.cell sO).trans a7, (hU.cell sO).trans a8, (hU.cell sT).trans t0⟩))
      go_upto_region 1 with fail
      refine wp_region_held_drew (S := (fun U => U.cell? ⟨O, 0, none⟩ = some (.int .u64 o.id) ∧ U.cell? ⟨O, 1, none⟩ = some (.int .u32 o.mb) ∧ U.cell? ⟨O, 2, none⟩ = some (.int .i64 o.ty) ∧ U.cell? ⟨O, 3, none⟩ = some (.int .i64 o.pr) ∧ U.cell? ⟨O, 4, none⟩ = some (.int .u64 o.vi) ∧ U.cell? ⟨O, 5, none⟩ = some (.int .u64 o.hi) ∧ U.cell? ⟨O, 6, none⟩ = some (.int .u64 o.pk) ∧ U.cell? ⟨O, 7, none⟩ = some (.int .i64 s) ∧ U.cell? ⟨O, 8, none⟩ = some (.int .u64 q) ∧ U.cell? ⟨T, 0, none⟩ = some (.pointer (some ⟨B, 0, none⟩)))) (by kernel_rfl) ?_ (fun hHeld => ?_)
      · (try dsimp only); (exact HKK.out _ (bdrew1 _))
      refine' wpAnyH_take (i := 0) (oi := _) (v := _) rfl (by kernel_rfl) (by kernel_rfl) (by kernel_rfl) (fun _ _ _ h => h) (Or.inl ⟨by kernel_rfl, ?hyq1⟩) (by assumption) ?restq1
      case hyq1 => (intro w hSw; (try dsimp only at hSw); go_simp; try (with_reducible rfl))
      try simp only [List.getElem_toArray, List.getElem_cons_succ, List.getElem_cons_zero, Act.put, List.setIfInBounds_toArray, List.set_cons_zero, List.set_cons_succ]
      refine' wpAnyH_take (i := 1) (oi := _) (v := _) rfl (by kernel_rfl) (by kernel_rfl) (by kernel_rfl) (fun _ _ _ h => h) (Or.inl ⟨by kernel_rfl, ?hyq2⟩) (by assumption) ?restq2
      case hyq2 => (intro w hSw; (try dsimp only at hSw); go_simp; try (with_reducible rfl))
      try simp only [List.getElem_toArray, List.getElem_cons_succ, List.getElem_cons_zero, Act.put, List.setIfInBounds_toArray, List.set_cons_zero, List.set_cons_succ]
      refine' wpAnyH_take (i := 2) (oi := _) (v := .bool true) rfl (by kernel_rfl) (by kernel_rfl) (by kernel_rfl) (fun _ _ _ h => h) (Or.inl ⟨by kernel_rfl, ?hyq3⟩) (by assumption) ?restq3
      case hyq3 => (intro w hSw; (try dsimp only at hSw); go_simp; try (with_reducible rfl))
      try simp only [List.getElem_toArray, List.getElem_cons_succ, List.getElem_cons_zero, Act.put, List.setIfInBounds_toArray, List.set_cons_zero, List.set_cons_succ]
      refine' wpAnyH_take (i := 3) (oi := _) (v := _) rfl (by kernel_rfl) (by kernel_rfl) (by kernel_rfl) (fun _ _ _ h => h) (Or.inl ⟨by kernel_rfl, ?hyq4⟩) (by assumption) ?restq4
      case hyq4 => (intro w hSw; (try dsimp only at hSw); go_simp; try (with_reducible rfl))
      try simp only [List.getElem_toArray, List.getElem_cons_succ, List.getElem_cons_zero, Act.put, List.setIfInBounds_toArray, List.set_cons_zero, List.set_cons_succ]
      refine' wpAnyH_take (i := 4) (oi := _) (v := _) rfl (by kernel_rfl) (by kernel_rfl) (by kernel_rfl) (fun _ _ _ h => h) (Or.inl ⟨by kernel_rfl, ?hyq5⟩) (by assumption) ?restq5
      case hyq5 => (intro w hSw; (try dsimp only at hSw); go_simp; try (with_reducible rfl))
      try simp only [List.getElem_toArray, List.getElem_cons_succ, List.getElem_cons_zero, Act.put, List.setIfInBounds_toArray, List.set_cons_zero, List.set_cons_succ]
      refine' wpAnyH_take (i := 5) (oi := _) (v := _) rfl (by kernel_rfl) (by kernel_rfl) (by kernel_rfl) (fun _ _ _ h => h) (Or.inl ⟨by kernel_rfl, ?hyq6⟩) (by assumption) ?restq6
      case hyq6 => (intro w hSw; (try dsimp only at hSw); go_simp; try (with_reducible rfl))
      try simp only [List.getElem_toArray, List.getElem_cons_succ, List.getElem_cons_zero, Act.put, List.setIfInBounds_toArray, List.set_cons_zero, List.set_cons_succ]
      refine' wpAnyH_take (i := 6) (oi := _) (v := _) rfl (by kernel_rfl) (by kernel_rfl) (by kernel_rfl) (fun _ _ _ h => h) (Or.inl ⟨by kernel_rfl, ?hyq7⟩) (by assumption) ?restq7
      case hyq7 => (intro w hSw; (try dsimp only at hSw); go_simp; try (with_reducible rfl))
      try simp only [List.getElem_toArray, List.getElem_cons_succ, List.getElem_cons_zero, Act.put, List.setIfInBounds_toArray, List.set_cons_zero, List.set_cons_succ]
      refine' wpAnyH_take (i := 7) (oi := _) (v := _) rfl (by kernel_rfl) (by kernel_rfl) (by kernel_rfl) (fun _ _ _ h => h) (Or.inl ⟨by kernel_rfl, ?hyq8⟩) (by assumption) ?restq8
      case hyq8 => (intro w hSw; (try dsimp only at hSw); go_simp; try (with_reducible rfl))
      try simp only [List.getElem_toArray, List.getElem_cons_succ, List.getElem_cons_zero, Act.put, List.setIfInBounds_toArray, List.set_cons_zero, List.set_cons_succ]
      refine' wpAnyH_take (i := 8) (oi := _) (v := _) rfl (by kernel_rfl) (by kernel_rfl) (by kernel_rfl) (fun _ _ _ h => h) (Or.inl ⟨by kernel_rfl, ?hyq9⟩) (by assumption) ?restq9
      case hyq9 => (intro w hSw; (try dsimp only at hSw); go_simp; try (with_reducible rfl))
      try simp only [List.getElem_toArray, List.getElem_cons_succ, List.getElem_cons_zero, Act.put, List.setIfInBounds_toArray, List.set_cons_zero, List.set_cons_succ]
      refine wpAnyH_ready (rs := [9]) (by kernel_rfl) (by simp) ?_
      refine AllReadyH.cons (o := _) rfl (fun K hK => ?_) AllReadyH.nil
      go_simp
      go_at_call 49; with_reducible refine (HME.out _ (by first | exact bdrew1 _ | exact bdrew _ _)).mono ?_; rintro e w2 ⟨rfl, hb2⟩; have HB2 := hid (show Below wr.heap.size wr w2 from btr (by first | exact bdrew1 _ | exact bdrew _ _) hb2)
      (try go_wp2_with fail)
      refine hK.out _ _ ?_ (fun hHeld => ?_)
      · (try dsimp only); (exact HKK.out _ HB2.out)
      clear hK K
      try simp only [List.getElem_toArray, List.getElem_cons_succ, List.getElem_cons_zero, Act.put, List.setIfInBounds_toArray, List.set_cons_zero, List.set_cons_succ]
      refine' wpAnyH_take (i := 10) (oi := _) (v := _) rfl (by kernel_rfl) (by kernel_rfl) (by kernel_rfl) (fun _ _ _ h => h) (Or.inl ⟨by kernel_rfl, ?hyq10⟩) (by assumption) ?restq10
      case hyq10 => (intro w hSw; (try dsimp only at hSw); go_simp; try (with_reducible rfl))
      try simp only [List.getElem_toArray, List.getElem_cons_succ, List.getElem_cons_zero, Act.put, List.setIfInBounds_toArray, List.set_cons_zero, List.set_cons_succ]
      refine wpAnyH_done (by kernel_rfl) ?_ _
      clear hHeld
      cases mv with
      | true =>
        obtain ⟨f, x, r, hl⟩ := mts_cons HMV.out
        have hx := HR.out.vb.ok (oth s) (f, x) (by rw [hl]; simp)
        have HMM := hid (show Calls Try.prog 75 #[.pointer (some ⟨T, 0, none⟩), .pointer (some ⟨O, 0, none⟩)] w2 fun e w' => e = .returned (.tuple #[]) ∧ ∃ b' ve' es' q', Rl w F T B O o s N (b0, es0, q0) w' b' ve' es' q' ∧ mes b' s q' < mes b s q from by
          have hlen := HR.out.le
          obtain ⟨x1, x2, x3, x4⟩ := hx
          simp only at x1 x2 x3 x4
          refine (meet_any w F T B O b ve es o s q f x r w2 (HR.out.cg.on HB2.out) HS.out hl q0' (by omega) x1 x2 (by omega) x4 (by unfold mes at hlen; omega) HR.out.vb.len (HR.out.vb.srt _ (oth_side HS.out)) HR.out.vb.ids).mono ?_
          rintro e w' ⟨rfl, ve', hc⟩
          obtain ⟨n1, n2⟩ := HR.out.next HS.out q0' HMV.out hl hc
          exact ⟨rfl, _, _, _, _, n1, n2⟩)
        clear hx
        have HLL := hid hl
        clear hl
        go_wp2_with (go_at_call 75; with_reducible refine (HMM.out).mono ?_; rintro e w3 ⟨rfl, b', ve', es', q', h3, h4⟩; have H3 := hid h3; have H4 := hid h4; clear h3 h4)
        go_roundw
        case rel => exact ⟨b', ve', es', q', H3.out⟩
        case measure =>
          rw [H3.out.cg.mea HKS.out hk, HR.out.cg.mea HKS.out hk]
          exact H4.out
      | false =>
        have HDN := hid (HR.out.done (by rintro ⟨_, h⟩; rw [HMV.out] at h; cases h))
        have HTD := hid (show Td w (gfp b0 T B ve0) T B b ve es w2 from (HTD0.out wr b ve es q HR.out).on HB2.out)
        obtain ⟨a0, a1, a2, a3, a4, a5, a6, a7, a8, t0⟩ := HKK.out w2 HB2.out
        have zq : (q == 0) = false := by
          have : q ≠ 0 := by omega
          simpa using this
        have CRS := hid (fun U => rests_any o.ty U)
        obtain ⟨rv, hrv⟩ : ∃ v, rst o.ty = v := ⟨_, rfl⟩
        rw [hrv] at CRS
        have HRV := hid hrv
        clear hrv
        cases rv with
        | false =>
          have HEN := hid (show Calls Try.prog 54 #[.pointer (some ⟨T, 0, none⟩), .int .u64 o.id, .int .u64 q, .int .i64 3] w2 fun e w' => e = .returned (.tuple #[]) ∧ ∃ ve1, Td w (gfp b0 T B ve0) T B b.told ve1 (es ++ [(evC o.id q 3).num (nx b.seq)]) w' from
            (end_any T B b ve es o.id q 3 w2 HTD.out.tn (by have := HR.out.le; omega)).mono (fun e w' hh => ⟨hh.1, HTD.out.told hh.2⟩))
          go_wp2_with (first | (go_at_call 47; with_reducible refine (CRS.out _).mono ?_; rintro e w5 ⟨rfl, rfl⟩) | (go_at_call 54; with_reducible refine (HEN.out).mono ?_; rintro e w3 ⟨rfl, ve3, h3⟩; have H3 := hid h3; clear h3))
          go_end0
          refine ⟨rfl, _, _, _, H3.out, ?_⟩
          rw [HNE.out, HDN.out]
          exact .inr (.inr ⟨q0', HRV.out, rfl, rfl⟩)
        | true =>
          obtain ⟨k2, hk2, hks2⟩ : ∃ k : Nat, k < 2 ∧ s = (k : Int) + 1 := by
            rcases HS.out with h | h
            · exact ⟨0, by decide, by omega⟩
            · exact ⟨1, by decide, by omega⟩
          have HK2 := hid hks2
          have CSI := hid (fun U => side_any B k2 U hk2)
          rw [← hks2] at CSI
          clear hks2
          have CSH := hid (fun U => shown_any o.pk q U HPK.out (by omega))
          obtain ⟨v4, v5, hsh⟩ : ∃ a c, shw o.pk q = (a, c) := ⟨_, _, rfl⟩
          rw [hsh] at CSH
          simp only at CSH
          have HSH := hid hsh
          clear hsh
          have HOW := hid (show w2.heap[O]? = some (.cells (crow o s q) 88 (0, 0)) from row_on HR.out.cg.ow HB2.out)
          have z4 := row_frz HOW.out 4
          have z5 := row_frz HOW.out 5
          go_upto_region 7 with (first | (go_at_call 47; with_reducible refine (CRS.out _).mono ?_; rintro e w5 ⟨rfl, rfl⟩) | (go_at_call 76; with_reducible refine (CSH.out _).mono ?_; rintro e w5 ⟨rfl, rfl⟩))
          obtain ⟨W4, hW4⟩ : ∃ W4, (w5.setCell ⟨O, 4, none⟩ (.int .u64 v4)).setCell ⟨O, 5, none⟩ (.int .u64 v5) = W4 := ⟨_, rfl⟩
          rw [hW4]
          obtain ⟨o', ho'⟩ : ∃ o', ({ o with vi := (shw o.pk q).1, hi := (shw o.pk q).2 } : Or) = o' := ⟨_, rfl⟩
          have hor : orow o' = #[.int .u64 o.id, .int .u32 o.mb, .int .i64 o.ty, .int .i64 o.pr, .int .u64 v4, .int .u64 v5, .int .u64 o.pk] := by
            have e := HSH.out
            rw [← ho']
            simp only [orow]
            rw [e]
          have hop : o'.pr = o.pr := by rw [← ho']
          have hkO : Kp (fun j => j = O) w5 W4 := by
            rw [← hW4]
            exact (Kp.set w5 O 4 _).trans (Kp.set _ O 5 _) (fun _ _ h => h)
          have hO4 : W4.heap[O]? = some (.cells #[.int .u64 o.id, .int .u32 o.mb, .int .i64 o.ty, .int .i64 o.pr, .int .u64 v4, .int .u64 v5, .int .u64 o.pk, .int .i64 s, .int .u64 q] 88 (0, 0)) := by
            rw [← hW4, set_row _ (set_row _ HOW.out)]
            rfl
          have HT4 := hid (show Td w (gfp b0 T B ve0) T B b ve es W4 from HTD.out.aside HOW.out (by have := HOZ.out; omega) hkO)
          have HOO := hid hO4
          have HEQ := hid (fun (U : World) (hU : Below W4.heap.size W4 U) => (show Calls Try.prog 77 #[.pointer (some ⟨B, 2 + k2, none⟩), .int .i64 s, .agg #[.int .u64 o.id, .int .u32 o.mb, .int .i64 o.ty, .int .i64 o.pr, .int .u64 v4, .int .u64 v5, .int .u64 o.pk]] U fun e w' => e = .returned (.tuple #[]) ∧ (∃ b', Td w (gfp b0 T B ve0) T B b' ve es w' ∧ Came o s (b, es, q) w.heap.size b' es) ∧ (w'.heap[O]? = U.heap[O]?) ∧ w'.cell? ⟨T, 0, none⟩ = some (.pointer (some ⟨B, 0, none⟩)) from by
            have ht := HT4.out.on hU
            have hsl := b.sl_le s
            have hvl := HR.out.vb.len
            rw [← hor]
            refine (enqueue_any B (2 + k2) b.row (b.sp s) (b.sc s) (b.sl s) s o' U ht.tn.bm.row (Bs.rowk HK2.out hk2) (ht.tn.bm.sli s) (by omega) (HR.out.vb.srt s HS.out)).mono ?_
            rintro e w' ⟨rfl, p', c', blk, d1, d2, d3, d4, d5⟩
            rw [hop] at d2
            have szU : w.heap.size ≤ U.heap.size := ht.kp.size
            have hil := ins_len (x := (blk, o')) (bhd_le s o.pr (b.sl s))
            have hkp : Kp (sfp b B s) U w' := d5
            have hb := ht.tn.bm.list (p := p') (c := c') (l := ins (bhd s o.pr (b.sl s)) (blk, o') (b.sl s)) HK2.out hk2 (by rw [hil]; exact d1) d2 hkp d4 (fun y hy => (ins_mem hy).elim (fun e => .inr (by rw [e]; exact d3)) .inl) (by
              have hnd := ht.tn.bm.snd s
              have hfr : blk ∉ (b.sl s).map (·.1) := fun hc => by
                obtain ⟨y, hy, e⟩ := List.mem_map.1 hc
                have := row_lt ((ht.tn.bm.sli s).at' y hy)
                omega
              unfold ins
              rw [List.map_append, List.map_cons, List.map_take, List.map_drop]
              have hp : ((((b.sl s).map (·.1)).take (bhd s o.pr (b.sl s)) ++ blk :: ((b.sl s).map (·.1)).drop (bhd s o.pr (b.sl s)))).Perm (blk :: (b.sl s).map (·.1)) := by
                refine (List.perm_middle).trans ?_
                rw [List.take_append_drop]
              exact hp.nodup_iff.2 (List.nodup_cons.2 ⟨hfr, hnd⟩))
            have htd := Td.list HS.out ht hkp hb d4 (fun y hy => (ins_mem hy).elim (fun e => .inr (by rw [e]; exact d3)) .inl)
            have tT := row_cell htd.tn.row 0
            simp only [List.getElem?_toArray, List.getElem?_cons_zero] at tT
            refine ⟨rfl, ⟨_, htd, .inr (.inl ⟨q0', HRV.out, rfl, p', c', blk, by omega, ?_⟩)⟩, ?_, tT⟩
            · simp only
              rw [ho']
            · have hOU := row_on HOO.out hU
              rw [hkp.row hOU ?_, hOU]
              rintro (e | e)
              · exact row_ne hOU ht.tn.bm.row (by decide) e
              · obtain ⟨c'', e''⟩ := (ht.tn.bm.sli s).ty e; exact row_ne hOU e'' (by decide) rfl))
          have HCC := hid (fun (U : World) (hU : U.heap[O]? = W4.heap[O]?) => (show U.cell? ⟨O, 0, none⟩ = some (.int .u64 o.id) ∧ U.cell? ⟨O, 1, none⟩ = some (.int .u32 o.mb) ∧ U.cell? ⟨O, 2, none⟩ = some (.int .i64 o.ty) ∧ U.cell? ⟨O, 3, none⟩ = some (.int .i64 o.pr) ∧ U.cell? ⟨O, 4, none⟩ = some (.int .u64 v4) ∧ U.cell? ⟨O, 5, none⟩ = some (.int .u64 v5) ∧ U.cell? ⟨O, 6, none⟩ = some (.int .u64 o.pk) ∧ U.cell? ⟨O, 7, none⟩ = some (.int .i64 s) from by
            rw [HOO.out] at hU
            have b0 := row_cell hU 0
            have b1 := row_cell hU 1
            have b2 := row_cell hU 2
            have b3 := row_cell hU 3
            have b4 := row_cell hU 4
            have b5 := row_cell hU 5
            have b6 := row_cell hU 6
            have b7 := row_cell hU 7
            simp only [List.getElem?_toArray, List.getElem?_cons_succ, List.getElem?_cons_zero] at b0 b1 b2 b3 b4 b5 b6 b7
            exact ⟨b0, b1, b2, b3, b4, b5, b6, b7⟩))
          have tT4 := row_cell HT4.out.tn.row 0
          simp only [List.getElem?_toArray, List.getElem?_cons_zero] at tT4
          have HTT := hid tT4
          clear hW4 hor hop hkO hO4 ho' a0 a1 a2 a3 a4 a5 a6 a7 a8 t0 z4 z5 tT4
          refine wp_region_held_drew (S := (fun U => U.cell? ⟨O, 0, none⟩ = some (.int .u64 o.id) ∧ U.cell? ⟨O, 1, none⟩ = some (.int .u32 o.mb) ∧ U.cell? ⟨O, 2, none⟩ = some (.int .i64 o.ty) ∧ U.cell? ⟨O, 3, none⟩ = some (.int .i64 o.pr) ∧ U.cell? ⟨O, 4, none⟩ = some (.int .u64 v4) ∧ U.cell? ⟨O, 5, none⟩ = some (.int .u64 v5) ∧ U.cell? ⟨O, 6, none⟩ = some (.int .u64 o.pk) ∧ U.cell? ⟨O, 7, none⟩ = some (.int .i64 s) ∧ U.cell? ⟨T, 0, none⟩ = some (.pointer (some ⟨B, 0, none⟩)))) (by kernel_rfl) ?_ (fun hHeld => ?_)
          · (try dsimp only); (obtain ⟨b0, b1, b2, b3, b4, b5, b6, b7⟩ := HCC.out _ rfl; exact ⟨b0, b1, b2, b3, b4, b5, b6, b7, HTT.out⟩)
          refine' wpAnyH_take (i := 0) (oi := _) (v := _) rfl (by kernel_rfl) (by kernel_rfl) (by kernel_rfl) (fun _ _ _ h => h) (Or.inl ⟨by kernel_rfl, ?hyq11⟩) (by assumption) ?restq11
          case hyq11 => (intro w hSw; (try dsimp only at hSw); go_simp; try (with_reducible rfl))
          try simp only [List.getElem_toArray, List.getElem_cons_succ, List.getElem_cons_zero, Act.put, List.setIfInBounds_toArray, List.set_cons_zero, List.set_cons_succ]
          refine' wpAnyH_take (i := 1) (oi := _) (v := _) rfl (by kernel_rfl) (by kernel_rfl) (by kernel_rfl) (fun _ _ _ h => h) (Or.inl ⟨by kernel_rfl, ?hyq12⟩) (by assumption) ?restq12
          case hyq12 => (intro w hSw; (try dsimp only at hSw); go_simp; try (with_reducible rfl))
          try simp only [List.getElem_toArray, List.getElem_cons_succ, List.getElem_cons_zero, Act.put, List.setIfInBounds_toArray, List.set_cons_zero, List.set_cons_succ]
          refine' wpAnyH_take (i := 2) (oi := _) (v := _) rfl (by kernel_rfl) (by kernel_rfl) (by kernel_rfl) (fun _ _ _ h => h) (Or.inl ⟨by kernel_rfl, ?hyq13⟩) (by assumption) ?restq13
          case hyq13 => (intro w hSw; (try dsimp only at hSw); go_simp; try (with_reducible rfl))
          try simp only [List.getElem_toArray, List.getElem_cons_succ, List.getElem_cons_zero, Act.put, List.setIfInBounds_toArray, List.set_cons_zero, List.set_cons_succ]
          refine' wpAnyH_take (i := 3) (oi := _) (v := _) rfl (by kernel_rfl) (by kernel_rfl) (by kernel_rfl) (fun _ _ _ h => h) (Or.inl ⟨by kernel_rfl, ?hyq14⟩) (by assumption) ?restq14
          case hyq14 => (intro w hSw; (try dsimp only at hSw); go_simp; try (with_reducible rfl))
          try simp only [List.getElem_toArray, List.getElem_cons_succ, List.getElem_cons_zero, Act.put, List.setIfInBounds_toArray, List.set_cons_zero, List.set_cons_succ]
          refine' wpAnyH_take (i := 4) (oi := _) (v := _) rfl (by kernel_rfl) (by kernel_rfl) (by kernel_rfl) (fun _ _ _ h => h) (Or.inl ⟨by kernel_rfl, ?hyq15⟩) (by assumption) ?restq15
          case hyq15 => (intro w hSw; (try dsimp only at hSw); go_simp; try (with_reducible rfl))
          try simp only [List.getElem_toArray, List.getElem_cons_succ, List.getElem_cons_zero, Act.put, List.setIfInBounds_toArray, List.set_cons_zero, List.set_cons_succ]
          refine' wpAnyH_take (i := 5) (oi := _) (v := _) rfl (by kernel_rfl) (by kernel_rfl) (by kernel_rfl) (fun _ _ _ h => h) (Or.inl ⟨by kernel_rfl, ?hyq16⟩) (by assumption) ?restq16
          case hyq16 => (intro w hSw; (try dsimp only at hSw); go_simp; try (with_reducible rfl))
          try simp only [List.getElem_toArray, List.getElem_cons_succ, List.getElem_cons_zero, Act.put, List.setIfInBounds_toArray, List.set_cons_zero, List.set_cons_succ]
          refine' wpAnyH_take (i := 7) (oi := _) (v := _) rfl (by kernel_rfl) (by kernel_rfl) (by kernel_rfl) (fun _ _ _ h => h) (Or.inl ⟨by kernel_rfl, ?hyq17⟩) (by assumption) ?restq17
          case hyq17 => (intro w hSw; (try dsimp only at hSw); go_simp; try (with_reducible rfl))
          try simp only [List.getElem_toArray, List.getElem_cons_succ, List.getElem_cons_zero, Act.put, List.setIfInBounds_toArray, List.set_cons_zero, List.set_cons_succ]
          refine' wpAnyH_take (i := 8) (oi := _) (v := _) rfl (by kernel_rfl) (by kernel_rfl) (by kernel_rfl) (fun _ _ _ h => h) (Or.inl ⟨by kernel_rfl, ?hyq18⟩) (by assumption) ?restq18
          case hyq18 => (intro w hSw; (try dsimp only at hSw); go_simp; try (with_reducible rfl))
          try simp only [List.getElem_toArray, List.getElem_cons_succ, List.getElem_cons_zero, Act.put, List.setIfInBounds_toArray, List.set_cons_zero, List.set_cons_succ]
          refine' wpAnyH_take (i := 9) (oi := _) (v := _) rfl (by kernel_rfl) (by kernel_rfl) (by kernel_rfl) (fun _ _ _ h => h) (Or.inl ⟨by kernel_rfl, ?hyq19⟩) (by assumption) ?restq19
          case hyq19 => (intro w hSw; (try dsimp only at hSw); go_simp; try (with_reducible rfl))
          try simp only [List.getElem_toArray, List.getElem_cons_succ, List.getElem_cons_zero, Act.put, List.setIfInBounds_toArray, List.set_cons_zero, List.set_cons_succ]
          refine' wpAnyH_take (i := 10) (oi := _) (v := _) rfl (by kernel_rfl) (by kernel_rfl) (by kernel_rfl) (fun _ _ _ h => h) (Or.inl ⟨by kernel_rfl, ?hyq20⟩) (by assumption) ?restq20
          case hyq20 => (intro w hSw; (try dsimp only at hSw); go_simp; try (with_reducible rfl))
          try simp only [List.getElem_toArray, List.getElem_cons_succ, List.getElem_cons_zero, Act.put, List.setIfInBounds_toArray, List.set_cons_zero, List.set_cons_succ]
          refine wpAnyH_ready (rs := [6]) (by kernel_rfl) (by simp) ?_
          refine AllReadyH.cons (o := _) rfl (fun K hK => ?_) AllReadyH.nil
          go_simp
          go_at_call 35; with_reducible refine (CSI.out _).mono ?_; rintro e w6 ⟨rfl, rfl⟩
          (try go_wp2_with fail)
          refine hK.out _ _ ?_ (fun hHeld => ?_)
          · (try dsimp only); (exact hHeld)
          clear hK K
          try simp only [List.getElem_toArray, List.getElem_cons_succ, List.getElem_cons_zero, Act.put, List.setIfInBounds_toArray, List.set_cons_zero, List.set_cons_succ]
          refine wpAnyH_ready (rs := [11]) (by kernel_rfl) (by simp) ?_
          refine AllReadyH.cons (o := _) rfl (fun K hK => ?_) AllReadyH.nil
          go_simp
          go_at_call 77; with_reducible refine (HEQ.out _ (by first | exact bdrew1 _ | exact bdrew _ _)).mono ?_; rintro e w7 ⟨rfl, h6, h7, h8⟩; have H6 := hid h6; have H7 := hid h7; have H8 := hid h8; clear h6 h7 h8
          (try go_wp2_with fail)
          refine hK.out _ _ ?_ (fun hHeld => ?_)
          · (try dsimp only); (obtain ⟨b0, b1, b2, b3, b4, b5, b6, b7⟩ := HCC.out _ H7.out; exact ⟨b0, b1, b2, b3, b4, b5, b6, b7, H8.out⟩)
          clear hK K
          try simp only [List.getElem_toArray, List.getElem_cons_succ, List.getElem_cons_zero, Act.put, List.setIfInBounds_toArray, List.set_cons_zero, List.set_cons_succ]
          refine wpAnyH_done (by kernel_rfl) ?_ _
          obtain ⟨b', h6, h7⟩ := H6.out
          clear hHeld
          go_wp2
          go_end0
          refine ⟨rfl, b', ve, es, h6, ?_⟩
          rw [HNE.out, HDN.out]
          exact h7
    · obtain rfl : q = 0 := by omega
      have HDN := hid (HR.out.done (by rintro ⟨h, _⟩; omega))
      have HTD := hid (HTD0.out wr b ve es 0 HR.out)
      go_upto_region 1 with fail
      go_quiet (fail)
      go_wp2
      go_end0
      refine ⟨rfl, b, ve, es, HTD.out.on (bdrew _ _), ?_⟩
      rw [HNE.out, HDN.out]
      exact .inl ⟨rfl, rfl, rfl⟩
end Go.Proofs.Ytojmcfkbekodpaa
namespace Go.Proofs.Ytojmcfkbekodpaa
open Go.RowKit Go.Deep Go.Shelf
set_option linter.unusedVariables false
set_option linter.unusedSimpArgs false
set_option maxHeartbeats 4000000
set_option maxRecDepth 100000
/-- orders, cell by cell. -/
def ors (os : List Or) : List Value := os.flatMap fun x => (orow x).toList
theorem ors_snoc (l : List Or) (x : Or) : ors (l ++ [x]) = ors l ++ (orow x).toList := by simp [ors]
theorem ors_get {os : List Or} {i : Nat} (hi : i < os.length) {j : Nat} (hj : j < 7) : (ors os)[i * 7 + j]? = (orow os[i]).toList[j]? := by
  induction os generalizing i with
  | nil => simp at hi
  | cons x l ih =>
    have hx : (orow x).toList.length = 7 := by simp [orow]
    cases i with
    | zero =>
      simp only [ors, List.flatMap_cons, Nat.zero_mul, Nat.zero_add, List.getElem_cons_zero]
      rw [List.getElem?_append_left (by omega)]
    | succ i =>
      have := ih (i := i) (by simpa using hi)
      simp only [ors, List.flatMap_cons, List.getElem_cons_succ] at this ⊢
      rw [List.getElem?_append_right (by omega), hx, show (i + 1) * 7 + j - 7 = i * 7 + j by omega]
      exact this
theorem orow_one (z : Or) : ∀ v ∈ (orow z).toList, v.oneCell' = true := by
  intro v hv
  simp only [orow, List.mem_cons, List.not_mem_nil, or_false] at hv
  rcases hv with rfl | rfl | rfl | rfl | rfl | rfl | rfl <;> rfl
theorem info50all : (Try.prog.info? 86).map (fun i => (i.zero, i.size, i.bytes)) = some (some (.agg #[.int .u64 0, .int .u32 0, .int .i64 0, .int .i64 0, .int .u64 0, .int .u64 0, .int .u64 0]), 7, 56) := by kernel_rfl
theorem orders_any (p : Option Addr) (c : Nat) (l : LO) (w : World) (h : Li w p c l) (hn : l.length ≤ 1048576) :
    Calls Try.prog 86 #[.slice p l.length c] w fun e w' => ∃ v, e = .returned v ∧ w'.ownsRow w.heap.size 86 7 v l.length (ors (l.map (·.2))) ∧ Below w.heap.size w w' := by
  obtain ⟨i0, hi, hz0, hz1, hz2⟩ := info_parts info50all
  obtain ⟨n, hnn⟩ : ∃ n, l.length = n := ⟨_, rfl⟩
  obtain ⟨MC, hMC, hms⟩ : ∃ MC : Array Value, madeCells #[.int .u64 0, .int .u32 0, .int .i64 0, .int .i64 0, .int .u64 0, .int .u64 0, .int .u64 0] (n * 7) = MC ∧ MC.size = n * 7 := ⟨_, rfl, by simp [madeCells]⟩
  have hmk : ∀ u : World, (Instr.makeSlice 76 (.int .i64 0) (.int .i64 (n : Nat))).run Try.prog u = .ok (.slice (some ⟨u.heap.size, 0, none⟩) 0 n) (u.alloc (.cells MC 86)) := fun u => by
    have := run_make (P := Try.prog) u 76 86 i0 _ Try.underlying76 hi hz0 .i64 .i64 0 (n : Nat) (by omega) (by omega) (by rw [hz2]; omega) (by omega)
    rw [hz1] at this
    simpa [Value.cells, hMC] using this
  have HS := hid (show (w.alloc (.cells MC 86)).ownsRow w.heap.size 86 7 (.slice (some ⟨w.heap.size, 0, none⟩) 0 n) 0 (ors ((l.take 0).map (·.2))) from World.ownsRow_made w MC n (Nat.le_refl _) (by unfold maxLen; omega) hms)
  have HL := hid h
  have HI := hid hi
  have HZ0 := hid hz0
  have HZ1 := hid hz1
  have HZ2 := hid hz2
  have HN := hid hnn
  rw [hnn] at hn ⊢
  clear h hi hz0 hz1 hz2 hMC hms hnn
  go_enter Try.func86, Try.ntmps86
  go_wp2_with fail
  go_loopw [3, 11] (fun rv iv wr => ∃ i : Nat, i ≤ n ∧ iv = .int .i64 i ∧ Hid (wr.ownsRow w.heap.size 86 7 rv i (ors ((l.take i).map (·.2)))) ∧ Hid (Below w.heap.size w wr)) (fun _ iv _ => n - (intOf iv).toNat)
  case atStart => exact ⟨0, Nat.zero_le _, rfl, HS, hid (ball _ _)⟩
  case round =>
    obtain ⟨i, hin, rfl, HO, HB⟩ := hrel
    clear HS hmk
    by_cases hlt : i < n
    · have hil : i < l.length := by rw [HN.out]; exact hlt
      obtain ⟨g, hp, hgc, hr⟩ := (HL.out.on HB.out).cell hil
      subst hp
      obtain ⟨z, hz⟩ : ∃ z, (l[i]).2 = z := ⟨_, rfl⟩
      obtain ⟨bl, hbl⟩ : ∃ z, (l[i]).1 = z := ⟨_, rfl⟩
      rw [hbl] at hgc hr
      rw [hz] at hr
      simp only [pv] at hgc
      have r0 := row_cell hr 0
      have r1 := row_cell hr 1
      have r2 := row_cell hr 2
      have r3 := row_cell hr 3
      have r4 := row_cell hr 4
      have r5 := row_cell hr 5
      have r6 := row_cell hr 6
      simp only [orow, List.getElem?_toArray, List.getElem?_cons_succ, List.getElem?_cons_zero] at r0 r1 r2 r3 r4 r5 r6
      have HT := hid (show ors ((l.take i).map (·.2)) ++ (orow z).toList = ors ((l.take (i + 1)).map (·.2)) from by
        rw [List.take_succ_eq_append_getElem hil, List.map_append, List.map_singleton, hz, ors_snoc])
      have HNW := hid (fun (cs : Array Value) (hcs : cs = orow z) => (show ∀ j u, (orow z).toList[j]? = some u → (wr.alloc (.cells cs 86)).cell? ((⟨wr.heap.size, 0, none⟩ : Addr).add j) = some u from fun j u hj => by
        rw [Addr.add_lit, Nat.zero_add, row_cell (World.alloc_heap_new wr (.cells cs 86)), hcs]
        simpa using hj))
      have i0' : (0 : Int) ≤ (i : Int) := by omega
      have i1 : (i : Int) < (n : Int) := by omega
      have hbs := HB.out.size
      obtain ⟨p0, c0, hrv⟩ := own_form HO.out
      subst hrv
      clear hr hz hbl
      go_wp2_with (at_builtin; refine wpList_append_own _ (by rfl) (.tmp 15) (.tmp 19) 76 (by rfl) w.heap.size 86 i0 _ 7 56 Try.underlying76 HI.out HZ0.out HZ1.out HZ2.out rfl (by decide) _ i _ (by rfl) (HO.out.alloc _) ⟨wr.heap.size, 0, none⟩ 1 1 (orow z).toList (by rfl) (by simp [orow]) (HNW.out _ rfl) (orow_one z) (by unfold maxLen; omega) (by omega) (by simp; omega) ?_; intro v1 w1 hown hgrow _; have O1 := hid hown; have G1 := hid hgrow; clear hown hgrow)
      go_roundw
      case rel =>
        refine ⟨i + 1, by omega, by go_num, ?_, ?_⟩
        · have := O1.out
          rw [HT.out] at this
          exact this
        · exact (btr HB.out (ball wr _)).grown G1.out (Nat.le_trans HB.out.size (by simp)) (fun j hj => (HO.out.lt j hj).1)
      case measure => simp [intOf]; omega
    · obtain rfl : i = n := by omega
      go_wp2
      go_ret
      refine ⟨_, rfl, ?_, HB.out⟩
      have := HO.out
      rw [List.take_of_length_le (by rw [HN.out]; exact Nat.le_refl _)] at this
      exact this
end Go.Proofs.Ytojmcfkbekodpaa
namespace Go.Proofs.Ytojmcfkbekodpaa
open Go.RowKit Go.Deep Go.Shelf
set_option linter.unusedVariables false
set_option linter.unusedSimpArgs false
set_option maxHeartbeats 4000000
set_option maxRecDepth 100000
/-- a list whose blocks are all new. -/
structure Nw (w0 w : World) (v : Value) (l : LO) (os : List Or) : Prop where
  own : w.ownsRow w0.heap.size 100 1 v l.length (pvs l)
  at' : ∀ x ∈ l, w0.heap.size ≤ x.1 ∧ w.heap[x.1]? = some (.cells (orow x.2) 86 (0, 0))
  nd : (l.map (·.1)).Nodup
  os : l.map (·.2) = os
  be : Below w0.heap.size w0 w
theorem Nw.next {w0 w w' : World} {v v' : Value} {l : LO} {os : List Or} {z : Or} {cs : Array Value} {B2 : Nat} (h : Nw w0 w v l os) (hcs : cs = orow z) (ho : w'.ownsRow w0.heap.size 100 1 v' (l.length + 1) (pvs l ++ [pv w.heap.size])) (hg : ((w.alloc (.cells cs 86)).alloc (.cells #[pv w.heap.size] 100)).grownBy w' v.ownBlock) : Nw w0 w' v' (l ++ [(w.heap.size, z)]) (os ++ [z]) := by
  have hsz := h.be.size
  have hne : ∀ (g : Nat) (c : Array Value), w.heap[g]? = some (.cells c 86 (0, 0)) → some g ≠ v.ownBlock := fun g c hc e => by
    obtain ⟨c', e'⟩ := own_ty h.own e.symm
    exact row_ne hc e' (by decide) rfl
  have hb : Below w.heap.size w ((w.alloc (.cells cs 86)).alloc (.cells #[pv w.heap.size] 100)) := btr (ball _ _) (ball _ _)
  refine ⟨?_, fun x hx => ?_, ?_, by simp [h.os], (h.be.trans (hb.mono hsz)).grown hg (Nat.le_trans hsz hb.size) (fun j hj => (h.own.lt j hj).1)⟩
  · have : pvs (l ++ [(w.heap.size, z)]) = pvs l ++ [pv w.heap.size] := by simp [pvs]
    rw [this, List.length_append, List.length_singleton]
    exact ho
  · rcases List.mem_append.1 hx with hx | hx
    · obtain ⟨a, b⟩ := h.at' x hx
      refine ⟨a, ?_⟩
      have b' := row_on b hb
      rw [hg.block x.1 (row_lt b') (hne x.1 _ b)]
      exact b'
    · rw [List.mem_singleton] at hx
      subst hx
      refine ⟨hsz, ?_⟩
      have b' : ((w.alloc (.cells cs 86)).alloc (.cells #[pv w.heap.size] 100)).heap[w.heap.size]? = some (.cells (orow z) 86 (0, 0)) := by
        rw [← hcs]
        exact row_on (World.alloc_heap_new w (.cells cs 86)) (ball _ _)
      show w'.heap[w.heap.size]? = _
      rw [hg.block w.heap.size (row_lt b') (fun e => by have := (h.own.lt _ e.symm).2; omega)]
      exact b'
  · rw [List.map_append, List.map_singleton, List.nodup_append]
    refine ⟨h.nd, by simp, ?_⟩
    intro a ha b hb' e
    rw [List.mem_singleton] at hb'
    obtain ⟨x, hx, rfl⟩ := List.mem_map.1 ha
    have := row_lt (h.at' x hx).2
    simp at hb'
    omega
theorem listOf_any (p : Option Addr) (c : Nat) (os : List Or) (w : World) (h : w.ownsRow 0 86 7 (.slice p os.length c) os.length (ors os)) (hn : os.length ≤ 1048576) :
    Calls Try.prog 44 #[.slice p os.length c] w fun e w' => ∃ v l, e = .returned v ∧ Nw w w' v l os := by
  obtain ⟨i0, hi, hz0, hz1, hz2⟩ := info_parts info92all
  obtain ⟨n, hnn⟩ : ∃ n, os.length = n := ⟨_, rfl⟩
  obtain ⟨MC, hMC, hms⟩ : ∃ MC : Array Value, madeCells #[.pointer none] (n * 1) = MC ∧ MC.size = n * 1 := ⟨_, rfl, by simp [madeCells]⟩
  have hmk : ∀ u : World, (Instr.makeSlice 96 (.int .i64 0) (.int .i64 (n : Nat))).run Try.prog u = .ok (.slice (some ⟨u.heap.size, 0, none⟩) 0 n) (u.alloc (.cells MC 100)) := fun u => by
    have := run_make (P := Try.prog) u 96 100 i0 _ Try.underlying96 hi hz0 .i64 .i64 0 (n : Nat) (by omega) (by omega) (by rw [hz2]; omega) (by omega)
    rw [hz1] at this
    rw [← hMC]
    simpa [Value.cells] using this
  have HS := hid (show Nw w (w.alloc (.cells MC 100)) (.slice (some ⟨w.heap.size, 0, none⟩) 0 n) [] (os.take 0) from ⟨World.ownsRow_made w MC n (Nat.le_refl _) (by unfold maxLen; omega) hms, by simp, by simp, by simp, ball _ _⟩)
  have HL := hid h
  have HI := hid hi
  have HZ0 := hid hz0
  have HZ1 := hid hz1
  have HZ2 := hid hz2
  have HN := hid hnn
  rw [hnn] at hn ⊢
  clear h hi hz0 hz1 hz2 hMC hms hnn
  go_enter Try.func44, Try.ntmps44
  go_wp2_with fail
  go_loopw [3, 11] (fun rv iv wr => ∃ (i : Nat) (l : LO) (p0 : Option Addr) (c0 : Nat), i ≤ n ∧ iv = .int .i64 i ∧ rv = .slice p0 i c0 ∧ Hid (l.length = i) ∧ Hid (Nw w wr (.slice p0 i c0) l (os.take i))) (fun _ iv _ => n - (intOf iv).toNat)
  case atStart => exact ⟨0, [], _, _, Nat.zero_le _, rfl, rfl, hid rfl, HS⟩
  case round =>
    obtain ⟨i, l, p0, c0, hin, rfl, rfl, HLE, HO⟩ := hrel
    clear HS hmk
    by_cases hlt : i < n
    · have hil : i < os.length := by rw [HN.out]; exact hlt
      have hlo := own_on HL.out (btr (Below.refl _ _) HO.out.be)
      obtain ⟨g, cur, hp, r2, hcc⟩ : ∃ g cur, p = some ⟨g, 0, none⟩ ∧ wr.heap[g]? = some (.cells cur 86 (0, 0)) ∧ ∀ j, j < os.length * 7 → cur[j]? = (ors os)[j]? := by
        obtain ⟨h1, ⟨e, e2⟩ | ⟨g, c', cur, e, r1, r2, r3, r4, r5, r6⟩⟩ := hlo
        · have := (Value.slice.inj e).2.1
          omega
        · obtain ⟨rfl, _, rfl⟩ := Value.slice.inj e
          refine ⟨g, cur, rfl, r2, fun j hj => ?_⟩
          have := congrArg (fun z => z[j]?) r6
          simp only [List.getElem?_take, hj, if_true, Array.getElem?_toList] at this
          exact this
      subst hp
      obtain ⟨z, hz⟩ : ∃ z, os[i] = z := ⟨_, rfl⟩
      have rr : ∀ j, j < 7 → wr.cell? ⟨g, i * 7 + j, none⟩ = (orow z).toList[j]? := fun j hj => by
        rw [row_cell r2, hcc _ (by omega), ors_get hil hj, hz]
      have r0 := rr 0 (by omega)
      have r1 := rr 1 (by omega)
      have r2' := rr 2 (by omega)
      have r3 := rr 3 (by omega)
      have r4 := rr 4 (by omega)
      have r5 := rr 5 (by omega)
      have r6 := rr 6 (by omega)
      simp only [orow, List.getElem?_cons_succ, List.getElem?_cons_zero, Nat.add_zero] at r0 r1 r2' r3 r4 r5 r6
      have HT := hid (show os.take i ++ [z] = os.take (i + 1) from by
        rw [List.take_succ_eq_append_getElem hil, hz])
      have HNW := hid (fun (cs : Array Value) => (show ∀ j u, [pv wr.heap.size][j]? = some u → ((wr.alloc (.cells cs 86)).alloc (.cells #[pv wr.heap.size] 100)).cell? ((⟨wr.heap.size + 1, 0, none⟩ : Addr).add j) = some u from fun j u hj => by
        have e := World.alloc_heap_new (wr.alloc (.cells cs 86)) (.cells #[pv wr.heap.size] 100)
        have e2 : (wr.alloc (.cells cs 86)).heap.size = wr.heap.size + 1 := by simp
        rw [e2] at e
        rw [Addr.add_lit, Nat.zero_add, row_cell e]
        simpa using hj))
      have i0' : (0 : Int) ≤ (i : Int) := by omega
      have i1 : (i : Int) < (n : Int) := by omega
      have HOW := hid (show wr.ownsRow w.heap.size 100 1 (.slice p0 i c0) i (pvs l) from by have := HO.out.own; rw [HLE.out] at this; exact this)
      have hbs := HO.out.be.size
      clear hz hlo r2 hcc rr
      go_wp2_with (at_builtin; refine wpList_append_own _ (by rfl) (.tmp 15) (.tmp 16) 96 (by rfl) w.heap.size 100 i0 _ 1 8 Try.underlying96 HI.out HZ0.out HZ1.out HZ2.out rfl (by decide) _ i _ (by rfl) ((HOW.out.alloc _).alloc _) ⟨wr.heap.size + 1, 0, none⟩ 1 1 [pv wr.heap.size] (by rfl) (by simp) (HNW.out _) (by intro u hu; rw [List.mem_singleton] at hu; rw [hu]; rfl) (by unfold maxLen; omega) (by omega) (by simp; omega) ?_; intro v1 w1 hown hgrow _; obtain ⟨p1, c1, hrv⟩ := own_form hown; subst hrv; have O1 := hid hown; have G1 := hid hgrow; clear hown hgrow)
      go_roundw
      case rel =>
        refine ⟨i + 1, l ++ [(wr.heap.size, z)], p1, c1, by omega, by go_num, rfl, hid (by simp [HLE.out]), ?_⟩
        rw [← HT.out]
        exact HO.out.next (B2 := 0) rfl (by rw [HLE.out]; exact O1.out) G1.out
      case measure => simp [intOf]; omega
    · obtain rfl : i = n := by omega
      go_wp2
      go_ret
      refine ⟨_, l, rfl, ?_⟩
      have := HO.out
      rw [List.take_of_length_le (by rw [HN.out]; exact Nat.le_refl _)] at this
      exact this
end Go.Proofs.Ytojmcfkbekodpaa
