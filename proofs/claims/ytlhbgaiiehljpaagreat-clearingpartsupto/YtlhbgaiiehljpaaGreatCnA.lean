/-
  CnA
-/
import Derived.Test.YtlhbgaiiehljpaaGreatLvH
namespace Go.Proofs.YtlhbgaiiehljpaaGreat.Ac
open Go.RowKit Go.Deep Go.Maps MonM Go.Proofs.YtlhbgaiiehljpaaGreat
set_option linter.unusedVariables false
set_option linter.unusedSimpArgs false
set_option maxRecDepth 100000
theorem row_rd {w : World} {g : Nat} {t : TypeId} {xs : List Value} (h : w.heap[g]? = some (.cells xs.toArray t (0, 0))) {j : Nat} {u : Value} (hu : xs[j]? = some u) : w.cell? ((⟨g, 0, none⟩ : Addr).add j) = some u := by
  have h1 := row_cell h j
  have e : (⟨g, 0, none⟩ : Addr).add j = ⟨g, j, none⟩ := by rw [Addr.add_lit, Nat.zero_add]
  rw [e, h1]
  simpa using hu
theorem own_some {base : Nat} {w : World} {e : TypeId} {size n c : Nat} {p : Option Addr} {xs : List Value} (h : w.ownsRow base e size (.slice p n c) n xs) (hn : 0 < n) : ∃ g, p = some ⟨g, 0, none⟩ ∧ base ≤ g ∧ g < w.heap.size := by
  obtain ⟨h1, ⟨h2, h3⟩ | ⟨g, c', cur, h2, r1, r2, r⟩⟩ := h
  · omega
  · injection h2 with h2 _ _
    exact ⟨g, h2, r1, row_lt r2⟩
theorem flat_at {α : Type} (s : Nat) (g : α → List Value) (hg : ∀ x, (g x).length = s) : ∀ (l : List α) (i j : Nat) (hi : i < l.length), j < s → (l.flatMap g)[i * s + j]? = (g l[i])[j]?
  | x :: r, 0, j, _, hj => by
    rw [List.flatMap_cons, List.getElem?_append_left (by rw [hg]; omega)]
    simp
  | x :: r, i + 1, j, hi, hj => by
    rw [List.flatMap_cons, List.getElem?_append_right (by rw [hg, Nat.succ_mul]; omega), hg]
    rw [show (i + 1) * s + j - s = i * s + j from by rw [Nat.succ_mul]; omega]
    exact flat_at s g hg r i j (by simp at hi; omega) hj
theorem infoN6 : (Tryz.prog.info? 38).map (·.size) = some 6 := by kernel_rfl
/-- a net. -/
structure Nt where
  m : Int
  i : Int
  b : Int
  s : Int
  a : Int
theorem own_form {base : Nat} {w : World} {e : TypeId} {size n : Nat} {v : Value} {xs : List Value} (h : w.ownsRow base e size v n xs) : ∃ p c, v = .slice p n c := by
  obtain ⟨_, ⟨rfl, h0⟩ | ⟨g, c, cur, rfl, _⟩⟩ := h
  · exact ⟨none, 0, by rw [h0]⟩
  · exact ⟨_, _, rfl⟩
/-- what a member's deals in an instrument come to. -/
structure Nv where
  b : Int
  s : Int
  a : Int
def n0 : Nv := ⟨0, 0, 0⟩
abbrev Ks2 := Int × Int → Option Nv
def buyD (f : Ks2) (m i q v : Int) : Ks2 := upd f (m, i) ⟨(((f (m, i)).getD n0).b + q) % 18446744073709551616, ((f (m, i)).getD n0).s, maddV ((f (m, i)).getD n0).a v⟩
def selD (f : Ks2) (m i q v : Int) : Ks2 := upd f (m, i) ⟨((f (m, i)).getD n0).b, (((f (m, i)).getD n0).s + q) % 18446744073709551616, maddV ((f (m, i)).getD n0).a (-v)⟩
def derr (d : Dl) : Int := if d.buy = 0 ∨ d.sel = 0 then 200 else terr d
def dst (f : Ks2) (d : Dl) : Ks2 := selD (buyD f d.buy d.ins d.q (d.pr * d.q)) d.sel d.ins d.q (d.pr * d.q)
def nerr : List Dl → Int
  | [] => 0
  | d :: r => if derr d = 0 then nerr r else derr d
def nst (f : Ks2) (l : List Dl) : Ks2 := l.foldl dst f
def ky (m i : Int) : Int := m * 4294967296 + i
def Nt.ky (x : Nt) : Int := Ac.ky x.m x.i
structure RelN (f : Ks2) (r : List Nt) : Prop where
  up : (r.map Nt.ky).Pairwise (· < ·)
  ok : ∀ x ∈ r, U32 x.m ∧ U32 x.i ∧ Amt x.a ∧ Word x.b ∧ Word x.s
  iff : ∀ m i v, U32 m → U32 i → (f (m, i) = some v ↔ (⟨m, i, v.b, v.s, v.a⟩ : Nt) ∈ r)
theorem u32_bd {m : Int} (h : U32 m) : 0 ≤ m ∧ m < 4294967296 := by
  unfold U32 at h
  simp [Lit.wf, IntKind.min, IntKind.max, IntKind.signed, IntKind.bits] at h
  omega
theorem ky_lt {m i m' i' : Int} (hm : U32 m) (hi : U32 i) (hm' : U32 m') (hi' : U32 i') : ky m i < ky m' i' ↔ (m < m' ∨ (m = m' ∧ i < i')) := by
  have := u32_bd hm
  have := u32_bd hi
  have := u32_bd hm'
  have := u32_bd hi'
  unfold ky
  omega
theorem sorted_eqK {α : Type} (key : α → Int) : ∀ (r r' : List α), (r.map key).Pairwise (· < ·) → (r'.map key).Pairwise (· < ·) → (∀ x, x ∈ r ↔ x ∈ r') → r = r'
  | [], [], _, _, _ => rfl
  | [], a' :: r', _, _, h => by have := (h a').2 (by simp); cases this
  | a :: r, [], _, _, h => by have := (h a).1 (by simp); cases this
  | a :: r, a' :: r', h1, h2, h => by
    rw [List.map_cons, List.pairwise_cons] at h1 h2
    have e : a = a' := by
      rcases List.mem_cons.1 ((h a).1 (by simp)) with e | e
      · exact e
      · have k1 := h2.1 (key a) (List.mem_map.2 ⟨a, e, rfl⟩)
        rcases List.mem_cons.1 ((h a').2 (by simp)) with e' | e'
        · exact e'.symm
        · have k2 := h1.1 (key a') (List.mem_map.2 ⟨a', e', rfl⟩)
          omega
    subst e
    rw [sorted_eqK key r r' h1.2 h2.2 (fun x => by
      constructor
      · intro hx
        rcases List.mem_cons.1 ((h x).1 (List.mem_cons_of_mem _ hx)) with e | e
        · subst e
          have := h1.1 (key x) (List.mem_map.2 ⟨x, hx, rfl⟩)
          omega
        · exact e
      · intro hx
        rcases List.mem_cons.1 ((h x).2 (List.mem_cons_of_mem _ hx)) with e | e
        · subst e
          have := h2.1 (key x) (List.mem_map.2 ⟨x, hx, rfl⟩)
          omega
        · exact e)]
theorem RelN.uniq {f : Ks2} {r r' : List Nt} (h : RelN f r) (h' : RelN f r') : r = r' :=
  sorted_eqK Nt.ky r r' h.up h'.up (fun x => by
    have e : ∀ x : Nt, x = ⟨x.m, x.i, (⟨x.b, x.s, x.a⟩ : Nv).b, (⟨x.b, x.s, x.a⟩ : Nv).s, (⟨x.b, x.s, x.a⟩ : Nv).a⟩ := fun x => rfl
    constructor
    · intro hx
      have k := h.ok x hx
      exact (h'.iff x.m x.i ⟨x.b, x.s, x.a⟩ k.1 k.2.1).1 ((h.iff x.m x.i ⟨x.b, x.s, x.a⟩ k.1 k.2.1).2 hx)
    · intro hx
      have k := h'.ok x hx
      exact (h.iff x.m x.i ⟨x.b, x.s, x.a⟩ k.1 k.2.1).1 ((h'.iff x.m x.i ⟨x.b, x.s, x.a⟩ k.1 k.2.1).2 hx))
def Nv.ok (v : Nv) : Prop := Amt v.a ∧ Word v.b ∧ Word v.s
def rd6l : List Value → Option (DataW Unit × List MemPlace)
  | [.int .u32 m, .int .u32 i, .int .u64 a, .int .u64 b, .int .u64 c, .int .u64 d] => some (.agg [.lit (.int .u32 m), .lit (.int .u32 i), .lit (.int .u64 a), .lit (.int .u64 b), .lit (.int .u64 c), .lit (.int .u64 d)], [])
  | _ => none
def rd6 : Value → Option (DataW Unit × List MemPlace)
  | .agg cs => rd6l cs.toList
  | _ => none
theorem rd6_inv {v : Value} {z : DataW Unit × List MemPlace} (h : rd6 v = some z) : ∃ m i a b c d, v = .agg #[.int .u32 m, .int .u32 i, .int .u64 a, .int .u64 b, .int .u64 c, .int .u64 d] ∧ z = (.agg [.lit (.int .u32 m), .lit (.int .u32 i), .lit (.int .u64 a), .lit (.int .u64 b), .lit (.int .u64 c), .lit (.int .u64 d)], []) := by
  unfold rd6 at h
  split at h
  · rename_i cs
    obtain ⟨l⟩ := cs
    simp only at h
    unfold rd6l at h
    split at h
    · cases h; exact ⟨_, _, _, _, _, _, rfl, rfl⟩
    · cases h
  · cases h
def nval (v : Nv) : Value := .agg #[.int .u32 0, .int .u32 0, .int .u64 v.b, .int .u64 v.s, .int .u64 (hiW v.a), .int .u64 (loW v.a)]
/-- nets by members and instruments. -/
def kvN : Kv (Int × Int) Nv where
  kt := 79
  mt := 74
  et := 38
  R := rd6
  ok := fun k => (Lit.int .u32 k.1).wf = true ∧ (Lit.int .u32 k.2).wf = true
  kv := fun k => hk k.1 k.2
  kl := fun k => .string (keyBytes [.int .u32 k.1, .int .u32 k.2])
  val := nval
  el := fun v => .agg [.lit (.int .u32 0), .lit (.int .u32 0), .lit (.int .u64 v.b), .lit (.int .u64 v.s), .lit (.int .u64 (hiW v.a)), .lit (.int .u64 (loW v.a))]
  zero := n0
theorem okN : KvOk kvN where
  law := lawH
  und := Tryz.underlying74
  key := fun k h => keyH h.1 h.2
  inj := fun k k' _ _ h => by
    have h : hk k.1 k.2 = hk k'.1 k'.2 := h
    unfold hk at h
    injection h with h
    injection h with h
    simp only [List.cons.injEq, Value.int.injEq, true_and, and_true] at h
    exact Prod.ext h.1 h.2
  rd := fun v => rfl
  un := fun x v ps h => by
    obtain ⟨m, i, a, b, c, d, rfl, e⟩ := rd6_inv (show rd6 x = _ from h)
    have e := congrArg Prod.fst e
    have e : DataW.agg [.lit (.int .u32 0), .lit (.int .u32 0), .lit (.int .u64 v.b), .lit (.int .u64 v.s), .lit (.int .u64 (hiW v.a)), .lit (.int .u64 (loW v.a))] = (DataW.agg [.lit (.int .u32 m), .lit (.int .u32 i), .lit (.int .u64 a), .lit (.int .u64 b), .lit (.int .u64 c), .lit (.int .u64 d)] : DataW Unit) := e
    injection e with e
    simp only [List.cons.injEq, DataW.lit.injEq, Lit.int.injEq, true_and, and_true] at e
    show _ = nval v
    unfold nval
    rw [← e.1, ← e.2.1, ← e.2.2.1, ← e.2.2.2.1, ← e.2.2.2.2.1, ← e.2.2.2.2.2]
  z := fun w => by kernel_rfl
end Go.Proofs.YtlhbgaiiehljpaaGreat.Ac
