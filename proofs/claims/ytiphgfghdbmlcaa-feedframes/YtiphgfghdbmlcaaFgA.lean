/-
  Messages that are held, in a map by their numbers.
-/
import Derived.Test.YtiphgfghdbmlcaaFfC
import Derived.Maps.OwnSet
import Derived.Maps.Views
import Derived.Maps.RangeWalk
namespace Go.Proofs.Ytiphgfghdbmlcaa
open Go.RowKit Go.Deep Go.Maps
set_option linter.unusedVariables false
set_option linter.unusedSimpArgs false
set_option maxHeartbeats 2000000
set_option maxRecDepth 100000
theorem lawU : Keyed Try.prog 27 := int_keyed Try.underlying27
/-- how a message reads. -/
def dd (d : Dm) : DataW Unit := .agg [.lit (.int .u64 d.sq), .lit (.int .i64 d.kd), .lit (.int .i64 d.sd), .lit (.int .i64 d.pr), .lit (.int .u64 d.qt), .lit (.int .i64 d.ct)]
def rdl : List Value → Option (DataW Unit × List MemPlace)
  | [.int .u64 a, .int .i64 b, .int .i64 c, .int .i64 d, .int .u64 e, .int .i64 f] => some (dd ⟨a, b, c, d, e, f⟩, [])
  | _ => none
def rdm : Value → Option (DataW Unit × List MemPlace)
  | .agg cs => rdl cs.toList
  | _ => none
theorem rdm_mk (d : Dm) : rdm (.agg #[.int .u64 d.sq, .int .i64 d.kd, .int .i64 d.sd, .int .i64 d.pr, .int .u64 d.qt, .int .i64 d.ct]) = some (dd d, []) := rfl
theorem dd_inj {a b : Dm} (h : dd a = dd b) : a = b := by
  unfold dd at h
  injection h with h
  simp only [List.cons.injEq, DataW.lit.injEq, Lit.int.injEq, true_and, and_true] at h
  obtain ⟨h1, h2, h3, h4, h5, h6⟩ := h
  cases a; cases b; simp_all
theorem rdl_inv {cs : List Value} {z : DataW Unit × List MemPlace} (h : rdl cs = some z) : ∃ d : Dm, cs = [.int .u64 d.sq, .int .i64 d.kd, .int .i64 d.sd, .int .i64 d.pr, .int .u64 d.qt, .int .i64 d.ct] ∧ z = (dd d, []) := by
  unfold rdl at h
  split at h
  · cases h; exact ⟨⟨_, _, _, _, _, _⟩, rfl, rfl⟩
  · cases h
theorem rdm_inv {v : Value} {z : DataW Unit × List MemPlace} (h : rdm v = some z) : ∃ d : Dm, v = .agg #[.int .u64 d.sq, .int .i64 d.kd, .int .i64 d.sd, .int .i64 d.pr, .int .u64 d.qt, .int .i64 d.ct] ∧ z = (dd d, []) := by
  unfold rdm at h
  split at h
  · rename_i cs
    obtain ⟨d, h1, h2⟩ := rdl_inv h
    refine ⟨d, ?_, h2⟩
    obtain ⟨l⟩ := cs
    simp only at h1
    rw [h1]
  · cases h
def dm0 : Dm := ⟨0, 0, 0, 0, 0, 0⟩
/-- a map holds messages. -/
def Hm (w : World) (M n : Nat) (L : List Dm) : Prop :=
  ∃ D : DataW Unit, w.ownsMap Try.prog 27 rdm M n D ∧ (∀ k, has D (.int .u64 k) = L.any (fun d => d.sq == k)) ∧ (∀ d ∈ L, ∀ z, D.atKey (.int .u64 d.sq) z = dd d) ∧ size D = L.length
/-- the message of a number. -/
def fnd (L : List Dm) (k : Int) : Dm := (L.find? (fun d => d.sq == k)).getD dm0
theorem fnd_mem {L : List Dm} {k : Int} (h : L.any (fun d => d.sq == k) = true) : fnd L k ∈ L ∧ (fnd L k).sq = k := by
  unfold fnd
  cases e : L.find? (fun d => d.sq == k) with
  | none =>
    rw [List.find?_eq_none] at e
    rw [List.any_eq_true] at h
    obtain ⟨x, h1, h2⟩ := h
    exact absurd h2 (e x h1)
  | some y => exact ⟨List.mem_of_find?_eq_some e, by simpa using List.find?_some e⟩
theorem fnd_not {L : List Dm} {k : Int} (h : L.any (fun d => d.sq == k) = false) : fnd L k = dm0 := by
  unfold fnd
  have : L.find? (fun d => d.sq == k) = none := by
    rw [List.find?_eq_none]
    intro x hx hc
    rw [List.any_eq_false] at h
    exact h x hx hc
  rw [this]; rfl
theorem Hm.lt {w : World} {M n : Nat} {L : List Dm} (h : Hm w M n L) : M < w.heap.size := by obtain ⟨D, h, _⟩ := h; exact h.lt
theorem Hm.obj {w : World} {M n : Nat} {L : List Dm} (h : Hm w M n L) : ∃ es cl, w.heap[M]? = some (.map es cl) := by
  obtain ⟨D, ⟨es, cl, h1, _⟩, _⟩ := h
  exact ⟨es, cl, h1⟩
theorem Hm.same {w w' : World} {M n : Nat} {L : List Dm} (h : Hm w M n L) (hs : w'.heap[M]? = w.heap[M]?) : Hm w' M n L := by
  obtain ⟨D, ⟨es, clock, h1, h2⟩, h3⟩ := h
  exact ⟨D, ⟨es, clock, hs.trans h1, h2⟩, h3⟩
theorem Hm.on {w w' : World} {M n : Nat} {L : List Dm} (h : Hm w M n L) (hb : Below w.heap.size w w') : Hm w' M n L := h.same (hb.block M h.lt)
theorem Hm.kept {w w' : World} {F : Nat → Prop} {M n : Nat} {L : List Dm} (h : Hm w M n L) (hk : Kp F w w') (hF : ¬ F M) : Hm w' M n L := h.same (hk.obj M h.lt hF)
theorem Hm.made (w : World) : Hm (w.alloc (.map #[] 0)) w.heap.size 0 [] := ⟨.map [], World.ownsMap_made _ _ _ _, fun k => rfl, fun d hd => by simp at hd, rfl⟩
theorem zeroD (w : World) : (zeroValue 48).run Try.prog w = .ok (.agg #[.int .u64 0, .int .i64 0, .int .i64 0, .int .i64 0, .int .u64 0, .int .i64 0]) w := by kernel_rfl
theorem keyU {k : Int} (hk : 0 ≤ k ∧ k < 18446744073709551616) : keyOf Try.prog 27 (.int .u64 k) = some (.int .u64 k) := keyOf_int_mk Try.underlying27 (by simp [Lit.wf, IntKind.min, IntKind.max, IntKind.signed, IntKind.bits]; omega)
theorem Hm.look {w : World} {M n : Nat} {L : List Dm} (h : Hm w M n L) (k : Int) (hk : 0 ≤ k ∧ k < 18446744073709551616) : (Instr.lookup 90 (.map (some M)) (.int .u64 k) true).run Try.prog w = .ok (.tuple #[.agg #[.int .u64 (fnd L k).sq, .int .i64 (fnd L k).kd, .int .i64 (fnd L k).sd, .int .i64 (fnd L k).pr, .int .u64 (fnd L k).qt, .int .i64 (fnd L k).ct], .bool (L.any (fun d => d.sq == k))]) w := by
  obtain ⟨D, h1, h2, h3, h4⟩ := h
  obtain ⟨v, ps, hr, hv⟩ := h1.look_ok lawU Try.underlying90 (zeroD w) (rdm_mk dm0) (keyU hk)
  rw [h2] at hr
  obtain ⟨d, rfl, hd⟩ := rdm_inv hv
  have hd1 : D.atKey (.int .u64 k) (dd dm0) = dd d := congrArg Prod.fst hd
  have e : fnd L k = d := by
    cases ha : L.any (fun d => d.sq == k) with
    | true =>
      obtain ⟨m1, m2⟩ := fnd_mem ha
      have := h3 _ m1 (dd dm0)
      rw [m2, hd1] at this
      exact (dd_inj this).symm
    | false =>
      rw [fnd_not ha]
      rw [atKey_of_not_has (by rw [h2]; exact ha)] at hd1
      exact dd_inj hd1
  rw [e]
  exact hr
theorem Hm.len {w : World} {M n : Nat} {L : List Dm} (h : Hm w M n L) (ty : TypeId) : (Builtin.len_ #[90] ty #[.map (some M)]).run Try.prog w = .ok (.int .i64 L.length) w := by
  obtain ⟨D, h1, h2, h3, h4⟩ := h
  rw [h1.len Try.underlying90 ty, h4]
theorem Hm.put {w : World} {M n : Nat} {L : List Dm} (h : Hm w M n L) (hn : n < maxLen) (d : Dm) (hk : 0 ≤ d.sq ∧ d.sq < 18446744073709551616) (hx : L.any (fun x => x.sq == d.sq) = false) :
    ∃ w', (Instr.mapUpdate 90 (.map (some M)) (.int .u64 d.sq) (.agg #[.int .u64 d.sq, .int .i64 d.kd, .int .i64 d.sd, .int .i64 d.pr, .int .u64 d.qt, .int .i64 d.ct])).run Try.prog w = .ok () w' ∧ Hm w' M (n + 1) (L ++ [d]) ∧ Kp (fun b => b = M) w w' := by
  obtain ⟨D, h1, h2, h3, h4⟩ := h
  obtain ⟨w', hr, h5, h6⟩ := h1.update lawU Try.underlying90 hn (keyU hk) (rdm_mk d)
  refine ⟨w', hr, ⟨_, h5, ?_, ?_, ?_⟩, ⟨h6.os, h6.tape, h6.output, h6.size, fun b hb hne => h6.block b hb (by simpa using hne)⟩⟩
  · intro k
    rw [List.any_append]
    by_cases e : k = d.sq
    · subst e
      rw [has_put_same h1.isMap (by simp [WideAt.IsKeyLit])]; simp
    · rw [has_put_other (by simp [e]), h2]
      have : (d.sq == k) = false := by simp; exact fun h => e h.symm
      simp [this]
  · intro y hy z
    rcases List.mem_append.1 hy with hy | hy
    · have ne : y.sq ≠ d.sq := by
        intro e
        rw [List.any_eq_false] at hx
        exact hx y hy (by simp [e])
      rw [atKey_put_other (by simp [ne])]
      exact h3 y hy z
    · simp only [List.mem_singleton] at hy
      subst hy
      rw [atKey_put_same h1.isMap (by simp [WideAt.IsKeyLit])]
  · rw [size_put (h1.tidy lawU), h2, hx, h4]; simp
theorem Hm.del {w : World} {M n : Nat} {L : List Dm} (h : Hm w M n L) (hnd : L.Pairwise (fun x y => x.sq ≠ y.sq)) (k : Int) (hk : 0 ≤ k ∧ k < 18446744073709551616) (ty : TypeId) :
    ∃ w', (Builtin.delete_ #[90, 27] ty #[.map (some M), .int .u64 k]).run Try.prog w = .ok (.tuple #[]) w' ∧ Hm w' M n (L.filter (fun d => d.sq != k)) ∧ Kp (fun b => b = M) w w' := by
  obtain ⟨D, h1, h2, h3, h4⟩ := h
  obtain ⟨w', hr, h5, h6⟩ := h1.drop lawU Try.underlying90 (keyU hk) ty
  have g6 := h6.grown
  refine ⟨w', hr, ⟨_, h5, ?_, ?_, ?_⟩, ⟨g6.os, g6.tape, g6.output, g6.size, fun b hb hne => g6.block b hb (by simpa using hne)⟩⟩
  · intro j
    by_cases e : j = k
    · subst e
      rw [has_del_same]
      symm
      rw [List.any_eq_false]
      intro x hx
      have := (List.mem_filter.1 hx).2
      simpa using this
    · rw [has_del_other (by simp [e]), h2, List.any_filter]
      congr 1
      funext d
      by_cases e2 : d.sq = j
      · simp [e2, e]
      · simp [e2]
  · intro y hy z
    obtain ⟨y1, y2⟩ := List.mem_filter.1 hy
    have ne : y.sq ≠ k := by simpa using y2
    rw [atKey_del_other (by simp [ne])]
    exact h3 y y1 z
  · have sd := size_del (k := .int .u64 k) (h1.tidy lawU)
    rw [h2, h4] at sd
    have key : ∀ l : List Dm, l.Pairwise (fun x y => x.sq ≠ y.sq) → (l.filter (fun d => d.sq != k)).length + (if l.any (fun d => d.sq == k) = true then 1 else 0) = l.length := by
      intro l
      induction l with
      | nil => intro _; rfl
      | cons x l ih =>
        intro hp
        rw [List.pairwise_cons] at hp
        have := ih hp.2
        by_cases e : x.sq = k
        · have hno : l.any (fun d => d.sq == k) = false := by
            rw [List.any_eq_false]
            intro y hy hc
            exact hp.1 y hy (by rw [e]; exact (by simpa using hc : y.sq = k).symm)
          rw [hno] at this
          simp only [Bool.false_eq_true, if_false, Nat.add_zero] at this
          simp [e, this]
        · have b1 : (x.sq == k) = false := by simpa using e
          simp only [List.filter_cons, List.any_cons, b1, Bool.false_or, List.length_cons]
          have b2 : (x.sq != k) = true := by simpa using e
          rw [if_pos b2, List.length_cons]
          omega
    have := key L hnd
    omega
end Go.Proofs.Ytiphgfghdbmlcaa
