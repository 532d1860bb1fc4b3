/-
  CnA
-/
import Derived.Test.YtlhbgaiiehljpaaGreatLvH
import Derived.Test.YtlhbgaiiehljpaaGreatGAa
namespace Go.Proofs.YtlhbgaiiehljpaaGreat.Ac
open Go.RowKit Go.Deep Go.Maps MonM Go.Proofs.YtlhbgaiiehljpaaGreat
set_option linter.unusedVariables false
set_option linter.unusedSimpArgs false
set_option maxRecDepth 100000
theorem row_rd {w : World} {g : Nat} {t : TypeId} {xs : List Value} (h : w.heap[g]? = some (.cells xs.toArray t (0, 0))) {j : Nat} {u : Value} (hu : xs[j]? = some u) : w.cell? ((⟨g, 0, none⟩ : Addr).add j) = some u := by
 have h1 := row_cell h j
 have e : (⟨g, 0, none⟩ : Addr).add j = ⟨g, j, none⟩ := by rw [Addr.add_lit, Nat.zero_add]
 rw [e, h1]
 simpa using hu
theorem own_some {base : Nat} {w : World} {e : TypeId} {size n c : Nat} {p : Option Addr} {xs : List Value} (h : w.ownsRow base e size (.slice p n c) n xs) (hn : 0 < n) : ∃ g, p = some ⟨g, 0, none⟩ ∧ base ≤ g ∧ g < w.heap.size := by
 obtain ⟨h1, ⟨h2, h3⟩ | ⟨g, c', cur, h2, r1, r2, r⟩⟩ := h
 ·omega
 ·injection h2 with h2 _ _
  exact ⟨g, h2, r1, row_lt r2⟩
theorem flat_at {α : Type} (s : Nat) (g : α → List Value) (hg : ∀ x, (g x).length = s) : ∀ (l : List α) (i j : Nat) (hi : i < l.length), j < s → (l.flatMap g)[i * s + j]? = (g l[i])[j]?
 | x :: r, 0, j, _, hj => by
  rw [List.flatMap_cons, List.getElem?_append_left (by rw [hg]; omega)]
  simp
 | x :: r, i + 1, j, hi, hj => by
  rw [List.flatMap_cons, List.getElem?_append_right (by rw [hg, Nat.succ_mul]; omega), hg]
  rw [show (i + 1) * s + j - s = i * s + j from by rw [Nat.succ_mul]; omega]
  exact flat_at s g hg r i j (by simp at hi; omega) hj
theorem infoN6 : (Tryz.prog.info? 38).map (·.size) = some 6 := by kernel_rfl
/-- a net. -/
structure Nt where
 m : Int
 i : Int
 b : Int
 s : Int
 a : Int
theorem own_form {base : Nat} {w : World} {e : TypeId} {size n : Nat} {v : Value} {xs : List Value} (h : w.ownsRow base e size v n xs) : ∃ p c, v = .slice p n c := by
 obtain ⟨_, ⟨rfl, h0⟩ | ⟨g, c, cur, rfl, _⟩⟩ := h
 ·exact ⟨none, 0, by rw [h0]⟩
 ·exact ⟨_, _, rfl⟩
/-- what a member's deals in an instrument come to. -/
structure Nv where
 b : Int
 s : Int
 a : Int
def n0 : Nv := ⟨0, 0, 0⟩
abbrev Ks2 := Int × Int → Option Nv
def buyD (f : Ks2) (m i q v : Int) : Ks2 := upd f (m, i) ⟨(((f (m, i)).getD n0).b + q) % 18446744073709551616, ((f (m, i)).getD n0).s, maddV ((f (m, i)).getD n0).a v⟩
def selD (f : Ks2) (m i q v : Int) : Ks2 := upd f (m, i) ⟨((f (m, i)).getD n0).b, (((f (m, i)).getD n0).s + q) % 18446744073709551616, maddV ((f (m, i)).getD n0).a (-v)⟩
def derr (d : Dl) : Int := if d.buy = 0 ∨ d.sel = 0 then 200 else terr d
def dst (f : Ks2) (d : Dl) : Ks2 := selD (buyD f d.buy d.ins d.q (d.pr * d.q)) d.sel d.ins d.q (d.pr * d.q)
def nerr : List Dl → Int
 | [] => 0
 | d :: r => if derr d = 0 then nerr r else derr d
def nst (f : Ks2) (l : List Dl) : Ks2 := l.foldl dst f
def ky (m i : Int) : Int := m * 4294967296 + i
def Nt.ky (x : Nt) : Int := Ac.ky x.m x.i
structure RelN (f : Ks2) (r : List Nt) : Prop where
 up : (r.map Nt.ky).Pairwise (· < ·)
 ok : ∀ x ∈ r, U32 x.m ∧ U32 x.i ∧ Amt x.a ∧ Word x.b ∧ Word x.s
 iff : ∀ m i v, U32 m → U32 i → (f (m, i) = some v ↔ (⟨m, i, v.b, v.s, v.a⟩ : Nt) ∈ r)
theorem u32_bd {m : Int} (h : U32 m) : 0 ≤ m ∧ m < 4294967296 := by
 unfold U32 at h
 simp [Lit.wf, IntKind.min, IntKind.max, IntKind.signed, IntKind.bits] at h
 omega
theorem ky_lt {m i m' i' : Int} (hm : U32 m) (hi : U32 i) (hm' : U32 m') (hi' : U32 i') : ky m i < ky m' i' ↔ (m < m' ∨ (m = m' ∧ i < i')) := by
 have := u32_bd hm
 have := u32_bd hi
 have := u32_bd hm'
 have := u32_bd hi'
 unfold ky
 omega
def Nv.ok (v : Nv) : Prop := Amt v.a ∧ Word v.b ∧ Word v.s
def rd6l : List Value → Option (DataW Unit × List MemPlace)
 | [.int .u32 m, .int .u32 i, .int .u64 a, .int .u64 b, .int .u64 c, .int .u64 d] => some (.agg [.lit (.int .u32 m), .lit (.int .u32 i), .lit (.int .u64 a), .lit (.int .u64 b), .lit (.int .u64 c), .lit (.int .u64 d)], [])
 | _ => none
def rd6 : Value → Option (DataW Unit × List MemPlace)
 | .agg cs => rd6l cs.toList
 | _ => none
theorem rd6_inv {v : Value} {z : DataW Unit × List MemPlace} (h : rd6 v = some z) : ∃ m i a b c d, v = .agg #[.int .u32 m, .int .u32 i, .int .u64 a, .int .u64 b, .int .u64 c, .int .u64 d] ∧ z = (.agg [.lit (.int .u32 m), .lit (.int .u32 i), .lit (.int .u64 a), .lit (.int .u64 b), .lit (.int .u64 c), .lit (.int .u64 d)], []) := by
 unfold rd6 at h
 split at h
 ·rename_i cs
  obtain ⟨l⟩ := cs
  simp only at h
  unfold rd6l at h
  split at h
  ·cases h; exact ⟨_, _, _, _, _, _, rfl, rfl⟩
  ·cases h
 ·cases h
def nval (v : Nv) : Value := .agg #[.int .u32 0, .int .u32 0, .int .u64 v.b, .int .u64 v.s, .int .u64 (hiW v.a), .int .u64 (loW v.a)]
/-- nets by members and instruments. -/
def kvN : Kv (Int × Int) Nv where
 kt := 79
 mt := 74
 et := 38
 R := rd6
 ok := fun k => (Lit.int .u32 k.1).wf = true ∧ (Lit.int .u32 k.2).wf = true
 kv := fun k => hk k.1 k.2
 kl := fun k => .string (keyBytes [.int .u32 k.1, .int .u32 k.2])
 val := nval
 el := fun v => .agg [.lit (.int .u32 0), .lit (.int .u32 0), .lit (.int .u64 v.b), .lit (.int .u64 v.s), .lit (.int .u64 (hiW v.a)), .lit (.int .u64 (loW v.a))]
 zero := n0
theorem okN : KvOk kvN where
 law := lawH
 und := Tryz.underlying74
 key := fun k h => keyH h.1 h.2
 inj := fun k k' _ _ h => by
  have h : hk k.1 k.2 = hk k'.1 k'.2 := h
  unfold hk at h
  injection h with h
  injection h with h
  simp only [List.cons.injEq, Value.int.injEq, true_and, and_true] at h
  exact Prod.ext h.1 h.2
 rd := fun v => rfl
 un := fun x v ps h => by
  obtain ⟨m, i, a, b, c, d, rfl, e⟩ := rd6_inv (show rd6 x = _ from h)
  have e := congrArg Prod.fst e
  have e : DataW.agg [.lit (.int .u32 0), .lit (.int .u32 0), .lit (.int .u64 v.b), .lit (.int .u64 v.s), .lit (.int .u64 (hiW v.a)), .lit (.int .u64 (loW v.a))] = (DataW.agg [.lit (.int .u32 m), .lit (.int .u32 i), .lit (.int .u64 a), .lit (.int .u64 b), .lit (.int .u64 c), .lit (.int .u64 d)] : DataW Unit) := e
  injection e with e
  simp only [List.cons.injEq, DataW.lit.injEq, Lit.int.injEq, true_and, and_true] at e
  show _ = nval v
  unfold nval
  rw [← e.1, ← e.2.1, ← e.2.2.1, ← e.2.2.2.1, ← e.2.2.2.2.1, ← e.2.2.2.2.2]
 z := fun w => by kernel_rfl
end Go.Proofs.YtlhbgaiiehljpaaGreat.Ac
namespace Go.Proofs.YtlhbgaiiehljpaaGreat.Ac
open List renaming getElem_toArray → lgA, getElem_cons_succ → lgB, getElem_cons_zero → lgC, setIfInBounds_toArray → lsA, set_cons_zero → lsB, set_cons_succ → lsC
open Go.RowKit Go.Deep Go.Maps MonM Go.Proofs.YtlhbgaiiehljpaaGreat
set_option linter.unusedVariables false
set_option linter.unusedSimpArgs false
set_option maxHeartbeats 8000000
set_option maxRecDepth 100000
attribute [local go_sem ↓] Go.wp_at_zero Go.wp_at_succ
theorem eqF_nil (d : Nat) (xs ys : Array Value) (w : World) : (Op.eqFields d xs ys []).run Tryz.prog w = .ok true w := by simp [Op.eqFields]
theorem eqF_any (d : Nat) (xs ys : Array Value) (f : Field) (fs : List Field) (u v : Value) (c : Bool) {r : Bool} {w : World} (hn : f.name ≠ "_") (hx : (part f.type xs f.offset).run Tryz.prog w = .ok u w) (hy : (part f.type ys f.offset).run Tryz.prog w = .ok v w)
  (hq : (Op.equalIn d f.type u v).run Tryz.prog w = .ok c w) (hr : (Op.eqFields d xs ys fs).run Tryz.prog w = .ok r w) : (Op.eqFields d xs ys (f :: fs)).run Tryz.prog w = .ok (c && r) w := by
 simp only [Op.eqFields, if_pos hn, Sem.run_bind, hx, hy, hq, Result.andThen_ok, Sem.run_ite]
 cases c
 ·simp
 ·simp [hr]
theorem eqF_cons (d : Nat) (xs ys : Array Value) (f : Field) (fs : List Field) (k k' : IntKind) (a b : Int) {r : Bool} {w : World} (hn : f.name ≠ "_") (hx : (part f.type xs f.offset).run Tryz.prog w = .ok (.int k a) w) (hy : (part f.type ys f.offset).run Tryz.prog w = .ok (.int k b) w)
  (hu : Tryz.prog.underlying f.type = some (.int k')) (hr : (Op.eqFields (d + 1) xs ys fs).run Tryz.prog w = .ok r w) : (Op.eqFields (d + 1) xs ys (f :: fs)).run Tryz.prog w = .ok ((a == b) && r) w :=
 eqF_any (d + 1) xs ys f fs _ _ (a == b) hn hx hy (run_equalIn_int w d f.type k k' a b hu) hr
theorem part_int (t : TypeId) (xs : Array Value) (o : Nat) (v : Value) (ha : ∀ w, (isAgg t).run Tryz.prog w = .ok false w) (h : xs[o]? = some v) (w : World) : (part t xs o).run Tryz.prog w = .ok v w := by
 simp [part, Sem.run_bind, ha, h]
theorem underM : Tryz.prog.underlying 33 = some (.struct (Tryz.prog.fieldsOf 33)) := by kernel_rfl
theorem stoodM : Tryz.prog.stoodInHeld 33 = false := by kernel_rfl
theorem underP : Tryz.prog.underlying 109 = some (.struct (Tryz.prog.fieldsOf 109)) := by kernel_rfl
theorem stoodP : Tryz.prog.stoodInHeld 109 = false := by kernel_rfl
theorem underH : Tryz.prog.underlying 79 = some (.struct (Tryz.prog.fieldsOf 79)) := by kernel_rfl
theorem stoodH : Tryz.prog.stoodInHeld 79 = false := by kernel_rfl
theorem eqM (d : Nat) (a b a' b' : Int) (w : World) : (Op.equalIn (d + 2) 33 (.agg #[.int .u64 a, .int .u64 b]) (.agg #[.int .u64 a', .int .u64 b'])).run Tryz.prog w = .ok ((a == a') && ((b == b') && true)) w := by
 rw [run_equalIn_struct w (d + 1) 33 _ _ underM stoodM]
 simp only [Program.fieldsOf, Tryz.underlying33]
 exact eqF_cons _ _ _ _ _ .u64 .u64 _ _ (by decide) (part_int 31 _ _ _ Tryz.isAgg31 rfl _) (part_int 31 _ _ _ Tryz.isAgg31 rfl _) Tryz.underlying31 (eqF_cons _ _ _ _ _ .u64 .u64 _ _ (by decide) (part_int 31 _ _ _ Tryz.isAgg31 rfl _) (part_int 31 _ _ _ Tryz.isAgg31 rfl _) Tryz.underlying31 (eqF_nil _ _ _ _))
theorem eqH (a b a' b' : Int) (w : World) : (Op.equalIn 10000 79 (.agg #[.int .u32 a, .int .u32 b]) (.agg #[.int .u32 a', .int .u32 b'])).run Tryz.prog w = .ok ((a == a') && ((b == b') && true)) w := by
 rw [show (10000 : Nat) = 9999 + 1 from rfl, run_equalIn_struct w 9999 79 _ _ underH stoodH]
 simp only [Program.fieldsOf, Tryz.underlying79]
 exact eqF_cons _ _ _ _ _ .u32 .u32 _ _ (by decide) (part_int 36 _ _ _ Tryz.isAgg36 rfl _) (part_int 36 _ _ _ Tryz.isAgg36 rfl _) Tryz.underlying36 (eqF_cons _ _ _ _ _ .u32 .u32 _ _ (by decide) (part_int 36 _ _ _ Tryz.isAgg36 rfl _) (part_int 36 _ _ _ Tryz.isAgg36 rfl _) Tryz.underlying36 (eqF_nil _ _ _ _))
theorem part_money (q a b : Int) (w : World) : (part 33 (#[.int .i64 q, .int .u64 a, .int .u64 b]) 1).run Tryz.prog w = .ok (.agg #[.int .u64 a, .int .u64 b]) w := by
 have h1 := Tryz.isAgg33
 have h2 := Tryz.sizeOf33
 simp [part, Sem.run_bind, h1, h2]
theorem eqP (q a b q' a' b' : Int) (w : World) : (Op.equalIn 10000 109 (.agg #[.int .i64 q, .int .u64 a, .int .u64 b]) (.agg #[.int .i64 q', .int .u64 a', .int .u64 b'])).run Tryz.prog w = .ok ((q == q') && (((a == a') && ((b == b') && true)) && true)) w := by
 rw [show (10000 : Nat) = 9999 + 1 from rfl, run_equalIn_struct w 9999 109 _ _ underP stoodP]
 simp only [Program.fieldsOf, Tryz.underlying109]
 exact eqF_cons 9998 _ _ _ _ .i64 .i64 _ _ (by decide) (part_int 2 _ _ _ Tryz.isAgg2 rfl _) (part_int 2 _ _ _ Tryz.isAgg2 rfl _) Tryz.underlying2 (eqF_any 9999 _ _ _ _ _ _ _ (by decide) (part_money _ _ _ _) (part_money _ _ _ _) (eqM 9997 _ _ _ _ w) (eqF_nil _ _ _ _))
theorem infoP3 : (Tryz.prog.info? 109).map (·.size) = some 3 := by kernel_rfl
theorem and_any (x y : Pv) (w : World) (hx : Amt x.v) (hy : Amt y.v) (h0 : -4611686018427387904 ≤ x.q + y.q) (h1 : x.q + y.q ≤ 4611686018427387904) :
  Calls Tryz.prog 36 #[pval x, pval y] w fun e w' => e = .returned (pval ⟨x.q + y.q, maddV x.v y.v⟩) ∧ Below w.heap.size w w' := by
 have CP := hid (fun U => plus_any x.v y.v U hx hy)
 obtain ⟨n, hn⟩ : ∃ n, maddV x.v y.v = n := ⟨_, rfl⟩
 rw [hn] at CP
 rw [hn]
 have wq : IntKind.i64.wrap (x.q + y.q) = x.q + y.q := by rw [IntKind.wrap_i64]; omega
 clear hx hy hn h0 h1
 obtain ⟨g2, hg2⟩ : ∃ g, w.heap.size = g := ⟨_, rfl⟩
 obtain ⟨Wa, hWa⟩ : ∃ W, w.alloc (.cells #[.int .i64 x.q, .int .u64 (hiW x.v), .int .u64 (loW x.v)] 109) = W := ⟨_, rfl⟩
 obtain ⟨g3, hg3⟩ : ∃ g, Wa.heap.size = g := ⟨_, rfl⟩
 obtain ⟨Wb, hWb⟩ : ∃ W, Wa.alloc (.cells #[.int .i64 y.q, .int .u64 (hiW y.v), .int .u64 (loW y.v)] 109) = W := ⟨_, rfl⟩
 obtain ⟨g4, hg4⟩ : ∃ g, Wb.heap.size = g := ⟨_, rfl⟩
 obtain ⟨Wc, hWc⟩ : ∃ W, Wb.alloc (.cells #[.int .i64 0, .int .u64 0, .int .u64 0] 109) = W := ⟨_, rfl⟩
 have ba : Below w.heap.size w Wa := by rw [← hWa]; exact ball _ _
 have bb : Below Wa.heap.size Wa Wb := by rw [← hWb]; exact ball _ _
 have bc : Below Wb.heap.size Wb Wc := by rw [← hWc]; exact ball _ _
 have r2 : Wa.heap[g2]? = some (.cells #[.int .i64 x.q, .int .u64 (hiW x.v), .int .u64 (loW x.v)] 109 (0, 0)) := by rw [← hWa, ← hg2]; exact World.alloc_heap_new _ _
 have r3 : Wb.heap[g3]? = some (.cells #[.int .i64 y.q, .int .u64 (hiW y.v), .int .u64 (loW y.v)] 109 (0, 0)) := by rw [← hWb, ← hg3]; exact World.alloc_heap_new _ _
 have R2 := hid (row_on (row_on r2 bb) bc)
 have R3 := hid (row_on r3 bc)
 have R4 := hid (show Wc.heap[g4]? = some (.cells #[.int .i64 0, .int .u64 0, .int .u64 0] 109 (0, 0)) from by rw [← hWc, ← hg4]; exact World.alloc_heap_new _ _)
 have BC := hid (btr (btr ba bb) bc)
 have HG := hid (show w.heap.size ≤ g4 from by rw [← hg4]; exact (btr ba bb).size)
 have n24 : g2 ≠ g4 := by have := row_lt (row_on r2 bb); omega
 have n34 : g3 ≠ g4 := by have := row_lt r3; omega
 have N24 := hid n24
 have N34 := hid n34
 have BF := hid (Below.refl Wc.heap.size Wc)
 clear ba bb bc r2 r3 n24 n34
 unfold mv at CP
 unfold pval
 go_enter Tryz.func36, Tryz.ntmps36
 go_upto_region 1 with fail
 clear hWa hWb hWc hg2 hg3 hg4
 obtain ⟨V1, hV1⟩ : ∃ U, Wc.drew = U := ⟨_, rfl⟩
 have bV1 := hid (show Below Wc.heap.size Wc V1 from by rw [← hV1]; exact bdrew1 _)
 have DV1 := hid (btr BF.out bV1.out)
 have r2 := hid (row_on R2.out bV1.out)
 have r3 := hid (row_on R3.out bV1.out)
 have r4 := hid (row_on R4.out bV1.out)
 refine wp_region_held_drew (S := (fun U => U.cell? ⟨g2, 0, none⟩ = some (.int .i64 x.q) ∧ U.cell? ⟨g2, 1, none⟩ = some (.int .u64 (hiW x.v)) ∧ U.cell? ⟨g2, 2, none⟩ = some (.int .u64 (loW x.v)) ∧ U.cell? ⟨g3, 0, none⟩ = some (.int .i64 y.q) ∧ U.cell? ⟨g3, 1, none⟩ = some (.int .u64 (hiW y.v)) ∧ U.cell? ⟨g3, 2, none⟩ = some (.int .u64 (loW y.v)))) (by kernel_rfl) ?_ (fun hHeld => ?_)
 ·(try dsimp only); rw [hV1]; exact ⟨row_cell r2.out 0, row_cell r2.out 1, row_cell r2.out 2, row_cell r3.out 0, row_cell r3.out 1, row_cell r3.out 2⟩
 rw [hV1] at hHeld ⊢
 clear hV1
 refine' tkz 0 rfl ?_ ?_
 rotate_left
 ·(intro w hSw; (try dsimp only at hSw); go_simp; try (with_reducible rfl))
 try simp only [lgA, lgB, lgC, Act.put, lsA, lsB, lsC]
 refine' tkz 1 rfl ?_ ?_
 rotate_left
 ·(intro w hSw; (try dsimp only at hSw); go_simp; try (with_reducible rfl))
 try simp only [lgA, lgB, lgC, Act.put, lsA, lsB, lsC]
 refine' tkz 2 rfl ?_ ?_
 rotate_left
 ·(intro w hSw; (try dsimp only at hSw); go_simp; try (with_reducible rfl))
 try simp only [lgA, lgB, lgC, Act.put, lsA, lsB, lsC]
 refine' tkz 3 rfl ?_ ?_
 rotate_left
 ·(intro w hSw; (try dsimp only at hSw); go_simp; try (with_reducible rfl))
 try simp only [lgA, lgB, lgC, Act.put, lsA, lsB, lsC]
 refine' tkz 4 rfl ?_ ?_
 rotate_left
 ·(intro w hSw; (try dsimp only at hSw); go_simp; try (with_reducible rfl))
 try simp only [lgA, lgB, lgC, Act.put, lsA, lsB, lsC]
 refine' tkz 5 rfl ?_ ?_
 rotate_left
 ·(intro w hSw; (try dsimp only at hSw); go_simp; try (with_reducible rfl))
 try simp only [lgA, lgB, lgC, Act.put, lsA, lsB, lsC]
 refine' tkz 6 rfl ?_ ?_
 rotate_left
 ·(intro w hSw; (try dsimp only at hSw); go_simp; try (with_reducible rfl))
 try simp only [lgA, lgB, lgC, Act.put, lsA, lsB, lsC]
 refine' tkz 7 rfl ?_ ?_
 rotate_left
 ·(intro w hSw; (try dsimp only at hSw); go_simp; try (with_reducible rfl))
 try simp only [lgA, lgB, lgC, Act.put, lsA, lsB, lsC]
 refine' tkz 8 rfl ?_ ?_
 rotate_left
 ·(intro w hSw; (try dsimp only at hSw); go_simp; try (with_reducible rfl))
 try simp only [lgA, lgB, lgC, Act.put, lsA, lsB, lsC]
 refine wpAnyH_ready (rs := [9]) (by kernel_rfl) (by simp) ?_
 refine (AllReadyH.cons rfl (fun K hK => ?_) AllReadyH.nil)
 go_simp
 go_at_call 48
 with_reducible refine (CP.out V1).mono ?_
 rintro e X5 ⟨rfl, cX5⟩
 have bX5 := hid cX5
 clear cX5
 have DX5 := hid (btr DV1.out bX5.out)
 have r6 := hid (row_on r2.out bX5.out)
 have r7 := hid (row_on r3.out bX5.out)
 have r8 := hid (row_on r4.out bX5.out)
 (try go_wp2_with fail)
 refine hK.out _ _ ?_ (fun hHeld => ?_)
 ·(try dsimp only); exact ⟨row_cell r6.out 0, row_cell r6.out 1, row_cell r6.out 2, row_cell r7.out 0, row_cell r7.out 1, row_cell r7.out 2⟩
 clear hK K
 try simp only [lgA, lgB, lgC, Act.put, lsA, lsB, lsC]
 refine' tkz 10 rfl ?_ ?_
 rotate_left
 ·(intro w hSw; (try dsimp only at hSw); go_simp; try (with_reducible rfl))
 try simp only [lgA, lgB, lgC, Act.put, lsA, lsB, lsC]
 refine wpAnyH_ready (rs := [11]) (by kernel_rfl) (by simp) ?_
 refine (AllReadyH.cons rfl (fun K hK => ?_) AllReadyH.nil)
 refine step_store_row (by rfl) 109 (.tmp 4) (.tmp 15) (by rfl) g4 #[.int .i64 (x.q + y.q), .int .u64 (hiW n), .int .u64 (loW n)] (by rfl) (by rfl) 109 _ r8.out infoP3 (by rfl) (by simp [Value.oneCell']) ?_
 have AY9 := hid (setRow_heap X5 g4 _ #[.int .i64 (x.q + y.q), .int .u64 (hiW n), .int .u64 (loW n)] 109 (0, 0) r8.out)
 have kY9 := hid (setRow_kp X5 g4 #[.int .i64 (x.q + y.q), .int .u64 (hiW n), .int .u64 (loW n)])
 have r10 := hid (kY9.out.row r6.out (fun e => N24.out e))
 have r11 := hid (kY9.out.row r7.out (fun e => N34.out e))
 obtain ⟨Y9, hY9⟩ : ∃ Y, X5.setRow g4 #[.int .i64 (x.q + y.q), .int .u64 (hiW n), .int .u64 (loW n)] = Y := ⟨_, rfl⟩
 rw [hY9] at AY9 kY9 r10 r11 ⊢
 clear hY9
 refine hK.out _ _ ?_ (fun hHeld => ?_)
 ·(try dsimp only); exact ⟨row_cell r10.out 0, row_cell r10.out 1, row_cell r10.out 2, row_cell r11.out 0, row_cell r11.out 1, row_cell r11.out 2⟩
 clear hK K
 try simp only [lgA, lgB, lgC, Act.put, lsA, lsB, lsC]
 refine wpAnyH_done (by kernel_rfl) ?_ _
 go_wp2
 exact bodyPost_ret (res_c Tryz.results36 _ _ g4 109 #[.int .i64 (x.q + y.q), .int .u64 (hiW n), .int .u64 (loW n)] (0, 0) _ (by rfl) AY9.out Tryz.underlying109 rfl infoP3) rfl ⟨rfl, (btr BC.out DX5.out).trans (kY9.out.below (btr BC.out DX5.out).size (fun g hg e => by have := HG.out; omega))⟩
theorem psize_any (x : Pv) (w : World) (h0 : -4611686018427387904 ≤ x.q) (h1 : x.q ≤ 4611686018427387904) :
  Calls Tryz.prog 38 #[pval x] w fun e w' => e = .returned (.int .u64 (if x.q < 0 then -x.q else x.q)) ∧ Below w.heap.size w w' := by
 obtain ⟨W, hW⟩ : ∃ W, w.alloc (.cells #[.int .i64 x.q, .int .u64 (hiW x.v), .int .u64 (loW x.v)] 109) = W := ⟨_, rfl⟩
 obtain ⟨g, hg⟩ : ∃ g, w.heap.size = g := ⟨_, rfl⟩
 have BW := hid (show Below w.heap.size w W from by rw [← hW]; exact ball _ _)
 have RW := hid (show W.heap[g]? = some (.cells #[.int .i64 x.q, .int .u64 (hiW x.v), .int .u64 (loW x.v)] 109 (0, 0)) from by rw [← hW, ← hg]; exact World.alloc_heap_new _ _)
 have k0 := row_cell RW.out 0
 simp only [List.getElem?_toArray, List.getElem?_cons_zero] at k0
 have HW := hid hW
 have HG := hid hg
 unfold pval
 obtain ⟨q, hq⟩ : ∃ q, x.q = q := ⟨_, rfl⟩
 rw [hq] at k0 h0 h1 hW ⊢
 clear HW HG
 by_cases c : q < 0
 ·rw [if_pos c]
  have e1 : IntKind.i64.wrap (-q) = -q := by rw [IntKind.wrap_i64]; omega
  have e2 : IntKind.u64.wrap (-q) = -q := by rw [IntKind.wrap_u64]; omega
  go_enter Tryz.func38, Tryz.ntmps38
  go_upto_region 1 with fail
  clear hW hg
  go_wp2
  go_ret
  exact ⟨rfl, BW.out⟩
 ·rw [if_neg c]
  have c1 : decide (q < 0) = false := decide_eq_false c
  have e2 : IntKind.u64.wrap q = q := by rw [IntKind.wrap_u64]; omega
  go_enter Tryz.func38, Tryz.ntmps38
  go_upto_region 1 with fail
  clear hW hg
  go_wp2
  go_ret
  exact ⟨rfl, BW.out⟩
end Go.Proofs.YtlhbgaiiehljpaaGreat.Ac
namespace Go.Proofs.YtlhbgaiiehljpaaGreat.Ac
open List renaming getElem_toArray → lgA, getElem_cons_succ → lgB, getElem_cons_zero → lgC, setIfInBounds_toArray → lsA, set_cons_zero → lsB, set_cons_succ → lsC
open Go.RowKit Go.Deep Go.Maps MonM Go.Proofs.YtlhbgaiiehljpaaGreat
set_option linter.unusedVariables false
set_option linter.unusedSimpArgs false
set_option maxHeartbeats 8000000
set_option maxRecDepth 100000
attribute [local go_sem ↓] Go.wp_at_zero Go.wp_at_succ
theorem hold_some (m i : Int) (x : Pv) (hx : x.q ≠ 0) (H b : Nat) (o : Int) (p : Option Addr) (k c : Nat) (w : World) (Φ : World → Prop) (row : w.heap[H]? = some (.cells #[.int .u64 o, .slice p k c, .map (some b)] 100 (0, 0))) (hb : ∃ es cl, w.heap[b]? = some (.map es cl))
  (hput : ∀ U, Below w.heap.size w U → ∃ U', (Instr.mapUpdate 98 (.map (some b)) (.agg #[.int .u32 m, .int .u32 i]) (.agg #[.int .i64 x.q, .int .u64 (hiW x.v), .int .u64 (loW x.v)])).run Tryz.prog U = .ok () U' ∧ Kp (fun j => j = b) U U' ∧ Φ U') :
  Calls Tryz.prog 39 #[pb H, .agg #[.int .u32 m, .int .u32 i], .agg #[.int .i64 x.q, .int .u64 (hiW x.v), .int .u64 (loW x.v)]] w fun e w' => e = .returned (.tuple #[]) ∧ Kp (fun j => j = b) w w' ∧ Φ w' := by
 have EQ := fun W => eqP x.q (hiW x.v) (loW x.v) 0 0 0 W
 have z : (x.q == 0) = false := by simpa using hx
 simp only [z, Bool.false_and] at EQ
 have qT : ∀ (w : World) (r : Option Nat), (binOp .eql 98 (.map r) (.map none)).run Tryz.prog w = .ok (.bool r.isNone) w := fun w r => run_eql_map_nil w _ _ _ r Tryz.underlying98
 obtain ⟨g4, hg4⟩ : ∃ g, w.heap.size = g := ⟨_, rfl⟩
 obtain ⟨Wa, hWa⟩ : ∃ W, w.alloc (.cells #[.int .u32 m, .int .u32 i] 79) = W := ⟨_, rfl⟩
 obtain ⟨g5, hg5⟩ : ∃ g, Wa.heap.size = g := ⟨_, rfl⟩
 obtain ⟨Wb, hWb⟩ : ∃ W, Wa.alloc (.cells #[.int .i64 x.q, .int .u64 (hiW x.v), .int .u64 (loW x.v)] 109) = W := ⟨_, rfl⟩
 have ba : Below w.heap.size w Wa := by rw [← hWa]; exact ball _ _
 have bb : Below Wa.heap.size Wa Wb := by rw [← hWb]; exact ball _ _
 have ra : Wa.heap[g4]? = some (.cells #[.int .u32 m, .int .u32 i] 79 (0, 0)) := by rw [← hWa, ← hg4]; exact World.alloc_heap_new _ _
 have RA := hid (row_on ra bb)
 have RB := hid (show Wb.heap[g5]? = some (.cells #[.int .i64 x.q, .int .u64 (hiW x.v), .int .u64 (loW x.v)] 109 (0, 0)) from by rw [← hWb, ← hg5]; exact World.alloc_heap_new _ _)
 have BC := hid (btr ba bb)
 have RH := hid (row_on row BC.out)
 have NB := hid (show ∀ cs t U, Below w.heap.size w U → ¬ U.heap[b]? = some (.cells cs t (0, 0)) from fun cs t U hU e => by
  obtain ⟨es, cl, e1⟩ := hb
  rw [row_on e1 hU] at e
  cases e)
 have HPUT := hid hput
 have d0 := row_cell RB.out 0
 have d1 := row_cell RB.out 1
 have d2 := row_cell RB.out 2
 have k2 := row_cell RH.out 2
 simp only [List.getElem?_toArray, List.getElem?_cons_succ, List.getElem?_cons_zero] at d0 d1 d2 k2
 clear ba bb ra row hb hput hx
 go_enter Tryz.func39, Tryz.ntmps39
 go_upto_region 5 with fail
 clear hWa hWb hg4 hg5 d0 d1 d2 k2 EQ qT z
 have BR := hid (Below.refl Wb.heap.size Wb)
 obtain ⟨V1, hV1⟩ : ∃ U, Wb.drew = U := ⟨_, rfl⟩
 have bV1 := hid (show Below Wb.heap.size Wb V1 from by rw [← hV1]; exact bdrew1 _)
 have DV1 := hid (btr BC.out bV1.out)
 have r2 := hid (row_on RH.out bV1.out)
 have r3 := hid (row_on RA.out bV1.out)
 have r4 := hid (row_on RB.out bV1.out)
 refine wp_region_held_drew (S := (fun U => U.cell? ⟨H, 2, none⟩ = some (.map (some b)) ∧ U.cell? ⟨g4, 0, none⟩ = some (.int .u32 m) ∧ U.cell? ⟨g4, 1, none⟩ = some (.int .u32 i) ∧ U.cell? ⟨g5, 0, none⟩ = some (.int .i64 x.q) ∧ U.cell? ⟨g5, 1, none⟩ = some (.int .u64 (hiW x.v)) ∧ U.cell? ⟨g5, 2, none⟩ = some (.int .u64 (loW x.v)))) (by kernel_rfl) ?_ (fun hHeld => ?_)
 ·(try dsimp only); rw [hV1]; exact ⟨row_cell r2.out 2, row_cell r3.out 0, row_cell r3.out 1, row_cell r4.out 0, row_cell r4.out 1, row_cell r4.out 2⟩
 rw [hV1] at hHeld ⊢
 clear hV1
 refine' tkz 0 rfl ?_ ?_
 rotate_left
 ·(intro w hSw; (try dsimp only at hSw); go_simp; try (with_reducible rfl))
 try simp only [lgA, lgB, lgC, Act.put, lsA, lsB, lsC]
 refine' tkz 1 rfl ?_ ?_
 rotate_left
 ·(intro w hSw; (try dsimp only at hSw); go_simp; try (with_reducible rfl))
 try simp only [lgA, lgB, lgC, Act.put, lsA, lsB, lsC]
 refine' tkz 2 rfl ?_ ?_
 rotate_left
 ·(intro w hSw; (try dsimp only at hSw); go_simp; try (with_reducible rfl))
 try simp only [lgA, lgB, lgC, Act.put, lsA, lsB, lsC]
 refine' tkz 3 rfl ?_ ?_
 rotate_left
 ·(intro w hSw; (try dsimp only at hSw); go_simp; try (with_reducible rfl))
 try simp only [lgA, lgB, lgC, Act.put, lsA, lsB, lsC]
 refine' tkz 4 rfl ?_ ?_
 rotate_left
 ·(intro w hSw; (try dsimp only at hSw); go_simp; try (with_reducible rfl))
 try simp only [lgA, lgB, lgC, Act.put, lsA, lsB, lsC]
 refine' tkz 5 rfl ?_ ?_
 rotate_left
 ·(intro w hSw; (try dsimp only at hSw); go_simp; try (with_reducible rfl))
 try simp only [lgA, lgB, lgC, Act.put, lsA, lsB, lsC]
 refine wpAnyH_ready (rs := [6]) (by kernel_rfl) (by simp) ?_
 refine (AllReadyH.cons rfl (fun K hK => ?_) AllReadyH.nil)
 obtain ⟨U5, huU5, hkU5, hφU5⟩ := HPUT.out V1 DV1.out
 have HU := hid hkU5
 have HF := hid hφU5
 clear hkU5 hφU5
 have r6 := hid (HU.out.row r2.out (fun e => by have e1 := r2.out; rw [e] at e1; exact NB.out _ _ _ DV1.out e1))
 have r7 := hid (HU.out.row r3.out (fun e => by have e1 := r3.out; rw [e] at e1; exact NB.out _ _ _ DV1.out e1))
 have r8 := hid (HU.out.row r4.out (fun e => by have e1 := r4.out; rw [e] at e1; exact NB.out _ _ _ DV1.out e1))
 go_simp
 refine hK.out _ _ ?_ (fun hHeld => ?_)
 ·(try dsimp only); exact ⟨row_cell r6.out 2, row_cell r7.out 0, row_cell r7.out 1, row_cell r8.out 0, row_cell r8.out 1, row_cell r8.out 2⟩
 clear hK K
 try simp only [lgA, lgB, lgC, Act.put, lsA, lsB, lsC]
 clear huU5
 refine wpAnyH_done (by kernel_rfl) ?_ _
 go_wp2
 go_end0
 exact ⟨rfl, (Kp.of _ DV1.out).trans HU.out (fun g _ e => e), HF.out⟩
end Go.Proofs.YtlhbgaiiehljpaaGreat.Ac
