/-
  Messages that are held, in a map by their numbers.
-/
import Derived.Test.YtojmcfkbekodpaaPp
import Derived.Maps.OwnSet
import Derived.Maps.Views
import Derived.Maps.RangeWalk
namespace Go.Proofs.Ytojmcfkbekodpaa.Fd
open Go.RowKit Go.Deep Go.Maps
set_option linter.unusedVariables false
set_option linter.unusedSimpArgs false
set_option maxHeartbeats 2000000
set_option maxRecDepth 100000
theorem lawU : Keyed Try.prog 33 := int_keyed Try.underlying33
/-- how a message reads. -/
def dd (d : Dm) : DataW Unit := .agg [.lit (.int .u64 d.sq), .lit (.int .i64 d.kd), .lit (.int .i64 d.sd), .lit (.int .i64 d.pr), .lit (.int .u64 d.qt), .lit (.int .i64 d.ct)]
def rdl : List Value → Option (DataW Unit × List MemPlace)
  | [.int .u64 a, .int .i64 b, .int .i64 c, .int .i64 d, .int .u64 e, .int .i64 f] => some (dd ⟨a, b, c, d, e, f⟩, [])
  | _ => none
def rdm : Value → Option (DataW Unit × List MemPlace)
  | .agg cs => rdl cs.toList
  | _ => none
theorem rdm_mk (d : Dm) : rdm (.agg #[.int .u64 d.sq, .int .i64 d.kd, .int .i64 d.sd, .int .i64 d.pr, .int .u64 d.qt, .int .i64 d.ct]) = some (dd d, []) := rfl
theorem dd_inj {a b : Dm} (h : dd a = dd b) : a = b := by
  unfold dd at h
  injection h with h
  simp only [List.cons.injEq, DataW.lit.injEq, Lit.int.injEq, true_and, and_true] at h
  obtain ⟨h1, h2, h3, h4, h5, h6⟩ := h
  cases a; cases b; simp_all
theorem rdl_inv {cs : List Value} {z : DataW Unit × List MemPlace} (h : rdl cs = some z) : ∃ d : Dm, cs = [.int .u64 d.sq, .int .i64 d.kd, .int .i64 d.sd, .int .i64 d.pr, .int .u64 d.qt, .int .i64 d.ct] ∧ z = (dd d, []) := by
  unfold rdl at h
  split at h
  · cases h; exact ⟨⟨_, _, _, _, _, _⟩, rfl, rfl⟩
  · cases h
theorem rdm_inv {v : Value} {z : DataW Unit × List MemPlace} (h : rdm v = some z) : ∃ d : Dm, v = .agg #[.int .u64 d.sq, .int .i64 d.kd, .int .i64 d.sd, .int .i64 d.pr, .int .u64 d.qt, .int .i64 d.ct] ∧ z = (dd d, []) := by
  unfold rdm at h
  split at h
  · rename_i cs
    obtain ⟨d, h1, h2⟩ := rdl_inv h
    refine ⟨d, ?_, h2⟩
    obtain ⟨l⟩ := cs
    simp only at h1
    rw [h1]
  · cases h
def dm0 : Dm := ⟨0, 0, 0, 0, 0, 0⟩
/-- a map holds messages. -/
def Hm (w : World) (M n : Nat) (L : List Dm) : Prop :=
  ∃ D : DataW Unit, w.ownsMap Try.prog 33 rdm M n D ∧ (∀ k, has D (.int .u64 k) = L.any (fun d => d.sq == k)) ∧ (∀ d ∈ L, ∀ z, D.atKey (.int .u64 d.sq) z = dd d) ∧ size D = L.length
/-- the message of a number. -/
def fnd (L : List Dm) (k : Int) : Dm := (L.find? (fun d => d.sq == k)).getD dm0
theorem fnd_mem {L : List Dm} {k : Int} (h : L.any (fun d => d.sq == k) = true) : fnd L k ∈ L ∧ (fnd L k).sq = k := by
  unfold fnd
  cases e : L.find? (fun d => d.sq == k) with
  | none =>
    rw [List.find?_eq_none] at e
    rw [List.any_eq_true] at h
    obtain ⟨x, h1, h2⟩ := h
    exact absurd h2 (e x h1)
  | some y => exact ⟨List.mem_of_find?_eq_some e, by simpa using List.find?_some e⟩
theorem fnd_not {L : List Dm} {k : Int} (h : L.any (fun d => d.sq == k) = false) : fnd L k = dm0 := by
  unfold fnd
  have : L.find? (fun d => d.sq == k) = none := by
    rw [List.find?_eq_none]
    intro x hx hc
    rw [List.any_eq_false] at h
    exact h x hx hc
  rw [this]; rfl
theorem Hm.lt {w : World} {M n : Nat} {L : List Dm} (h : Hm w M n L) : M < w.heap.size := by obtain ⟨D, h, _⟩ := h; exact h.lt
theorem Hm.obj {w : World} {M n : Nat} {L : List Dm} (h : Hm w M n L) : ∃ es cl, w.heap[M]? = some (.map es cl) := by
  obtain ⟨D, ⟨es, cl, h1, _⟩, _⟩ := h
  exact ⟨es, cl, h1⟩
theorem Hm.same {w w' : World} {M n : Nat} {L : List Dm} (h : Hm w M n L) (hs : w'.heap[M]? = w.heap[M]?) : Hm w' M n L := by
  obtain ⟨D, ⟨es, clock, h1, h2⟩, h3⟩ := h
  exact ⟨D, ⟨es, clock, hs.trans h1, h2⟩, h3⟩
theorem Hm.on {w w' : World} {M n : Nat} {L : List Dm} (h : Hm w M n L) (hb : Below w.heap.size w w') : Hm w' M n L := h.same (hb.block M h.lt)
theorem Hm.kept {w w' : World} {F : Nat → Prop} {M n : Nat} {L : List Dm} (h : Hm w M n L) (hk : Kp F w w') (hF : ¬ F M) : Hm w' M n L := h.same (hk.obj M h.lt hF)
theorem Hm.made (w : World) : Hm (w.alloc (.map #[] 0)) w.heap.size 0 [] := ⟨.map [], World.ownsMap_made _ _ _ _, fun k => rfl, fun d hd => by simp at hd, rfl⟩
theorem zeroD (w : World) : (zeroValue 47).run Try.prog w = .ok (.agg #[.int .u64 0, .int .i64 0, .int .i64 0, .int .i64 0, .int .u64 0, .int .i64 0]) w := by kernel_rfl
theorem keyU {k : Int} (hk : 0 ≤ k ∧ k < 18446744073709551616) : keyOf Try.prog 33 (.int .u64 k) = some (.int .u64 k) := keyOf_int_mk Try.underlying33 (by simp [Lit.wf, IntKind.min, IntKind.max, IntKind.signed, IntKind.bits]; omega)
theorem Hm.look {w : World} {M n : Nat} {L : List Dm} (h : Hm w M n L) (k : Int) (hk : 0 ≤ k ∧ k < 18446744073709551616) : (Instr.lookup 103 (.map (some M)) (.int .u64 k) true).run Try.prog w = .ok (.tuple #[.agg #[.int .u64 (fnd L k).sq, .int .i64 (fnd L k).kd, .int .i64 (fnd L k).sd, .int .i64 (fnd L k).pr, .int .u64 (fnd L k).qt, .int .i64 (fnd L k).ct], .bool (L.any (fun d => d.sq == k))]) w := by
  obtain ⟨D, h1, h2, h3, h4⟩ := h
  obtain ⟨v, ps, hr, hv⟩ := h1.look_ok lawU Try.underlying103 (zeroD w) (rdm_mk dm0) (keyU hk)
  rw [h2] at hr
  obtain ⟨d, rfl, hd⟩ := rdm_inv hv
  have hd1 : D.atKey (.int .u64 k) (dd dm0) = dd d := congrArg Prod.fst hd
  have e : fnd L k = d := by
    cases ha : L.any (fun d => d.sq == k) with
    | true =>
      obtain ⟨m1, m2⟩ := fnd_mem ha
      have := h3 _ m1 (dd dm0)
      rw [m2, hd1] at this
      exact (dd_inj this).symm
    | false =>
      rw [fnd_not ha]
      rw [atKey_of_not_has (by rw [h2]; exact ha)] at hd1
      exact dd_inj hd1
  rw [e]
  exact hr
theorem Hm.len {w : World} {M n : Nat} {L : List Dm} (h : Hm w M n L) (ty : TypeId) : (Builtin.len_ #[103] ty #[.map (some M)]).run Try.prog w = .ok (.int .i64 L.length) w := by
  obtain ⟨D, h1, h2, h3, h4⟩ := h
  rw [h1.len Try.underlying103 ty, h4]
theorem Hm.put {w : World} {M n : Nat} {L : List Dm} (h : Hm w M n L) (hn : n < maxLen) (d : Dm) (hk : 0 ≤ d.sq ∧ d.sq < 18446744073709551616) (hx : L.any (fun x => x.sq == d.sq) = false) :
    ∃ w', (Instr.mapUpdate 103 (.map (some M)) (.int .u64 d.sq) (.agg #[.int .u64 d.sq, .int .i64 d.kd, .int .i64 d.sd, .int .i64 d.pr, .int .u64 d.qt, .int .i64 d.ct])).run Try.prog w = .ok () w' ∧ Hm w' M (n + 1) (L ++ [d]) ∧ Kp (fun b => b = M) w w' := by
  obtain ⟨D, h1, h2, h3, h4⟩ := h
  obtain ⟨w', hr, h5, h6⟩ := h1.update lawU Try.underlying103 hn (keyU hk) (rdm_mk d)
  refine ⟨w', hr, ⟨_, h5, ?_, ?_, ?_⟩, ⟨h6.os, h6.tape, h6.output, h6.size, fun b hb hne => h6.block b hb (by simpa using hne)⟩⟩
  · intro k
    rw [List.any_append]
    by_cases e : k = d.sq
    · subst e
      rw [has_put_same h1.isMap (by simp [WideAt.IsKeyLit])]; simp
    · rw [has_put_other (by simp [e]), h2]
      have : (d.sq == k) = false := by simp; exact fun h => e h.symm
      simp [this]
  · intro y hy z
    rcases List.mem_append.1 hy with hy | hy
    · have ne : y.sq ≠ d.sq := by
        intro e
        rw [List.any_eq_false] at hx
        exact hx y hy (by simp [e])
      rw [atKey_put_other (by simp [ne])]
      exact h3 y hy z
    · simp only [List.mem_singleton] at hy
      subst hy
      rw [atKey_put_same h1.isMap (by simp [WideAt.IsKeyLit])]
  · rw [size_put (h1.tidy lawU), h2, hx, h4]; simp
theorem Hm.del {w : World} {M n : Nat} {L : List Dm} (h : Hm w M n L) (hnd : L.Pairwise (fun x y => x.sq ≠ y.sq)) (k : Int) (hk : 0 ≤ k ∧ k < 18446744073709551616) (ty : TypeId) :
    ∃ w', (Builtin.delete_ #[103, 33] ty #[.map (some M), .int .u64 k]).run Try.prog w = .ok (.tuple #[]) w' ∧ Hm w' M n (L.filter (fun d => d.sq != k)) ∧ Kp (fun b => b = M) w w' := by
  obtain ⟨D, h1, h2, h3, h4⟩ := h
  obtain ⟨w', hr, h5, h6⟩ := h1.drop lawU Try.underlying103 (keyU hk) ty
  have g6 := h6.grown
  refine ⟨w', hr, ⟨_, h5, ?_, ?_, ?_⟩, ⟨g6.os, g6.tape, g6.output, g6.size, fun b hb hne => g6.block b hb (by simpa using hne)⟩⟩
  · intro j
    by_cases e : j = k
    · subst e
      rw [has_del_same]
      symm
      rw [List.any_eq_false]
      intro x hx
      have := (List.mem_filter.1 hx).2
      simpa using this
    · rw [has_del_other (by simp [e]), h2, List.any_filter]
      congr 1
      funext d
      by_cases e2 : d.sq = j
      · simp [e2, e]
      · simp [e2]
  · intro y hy z
    obtain ⟨y1, y2⟩ := List.mem_filter.1 hy
    have ne : y.sq ≠ k := by simpa using y2
    rw [atKey_del_other (by simp [ne])]
    exact h3 y y1 z
  · have sd := size_del (k := .int .u64 k) (h1.tidy lawU)
    rw [h2, h4] at sd
    have key : ∀ l : List Dm, l.Pairwise (fun x y => x.sq ≠ y.sq) → (l.filter (fun d => d.sq != k)).length + (if l.any (fun d => d.sq == k) = true then 1 else 0) = l.length := by
      intro l
      induction l with
      | nil => intro _; rfl
      | cons x l ih =>
        intro hp
        rw [List.pairwise_cons] at hp
        have := ih hp.2
        by_cases e : x.sq = k
        · have hno : l.any (fun d => d.sq == k) = false := by
            rw [List.any_eq_false]
            intro y hy hc
            exact hp.1 y hy (by rw [e]; exact (by simpa using hc : y.sq = k).symm)
          rw [hno] at this
          simp only [Bool.false_eq_true, if_false, Nat.add_zero] at this
          simp [e, this]
        · have b1 : (x.sq == k) = false := by simpa using e
          simp only [List.filter_cons, List.any_cons, b1, Bool.false_or, List.length_cons]
          have b2 : (x.sq != k) = true := by simpa using e
          rw [if_pos b2, List.length_cons]
          omega
    have := key L hnd
    omega
end Go.Proofs.Ytojmcfkbekodpaa.Fd
namespace Go.Proofs.Ytojmcfkbekodpaa.Fd
open Go.RowKit Go.Deep
set_option linter.unusedVariables false
set_option linter.unusedSimpArgs false
set_option maxHeartbeats 4000000
set_option maxRecDepth 100000
theorem change1_any (B : Nat) (s p : Int) (x : Lv) (w : World) (hB : w.cell? ⟨B, 2, none⟩ = some (.int .i64 s)) (hlt : B < w.heap.size) :
    Calls Try.prog 80 #[.agg #[.int .i64 x.pr, .int .u64 x.qt, .int .i64 x.ct], .int .i64 p, .pointer (some ⟨B, 0, none⟩)] w fun e w' => e = .returned (.int .i64 (od s x.pr p)) ∧ Below w.heap.size w w' := by
  have O := hid (fun (U : World) => order_any s x.pr p U)
  go_enter Try.func80, Try.ntmps80
  go_wp2_with (go_at_call 78; with_reducible refine (O.out _).mono ?_; rintro e w1 ⟨rfl, rfl⟩)
  go_ret
  exact ⟨rfl, ball _ _⟩
/-- a price's place. -/
structure Plc (s : Int) (l : List Lv) (x : Int) (i : Nat) (b : Bool) : Prop where
  le : i ≤ l.length
  lo : ∀ k (hk : k < l.length), k < i → bt s l[k].pr x = true
  hi : ∀ k (hk : k < l.length), i ≤ k → bt s l[k].pr x = false
  b : b = true ↔ ∃ h : i < l.length, l[i].pr = x
theorem bsearch_any (B : Nat) (s x : Int) (p : Option Addr) (c : Nat) (l : List Lv) (w : World) (h : Rl w p c l) (ho : Lok s l) (hB : w.cell? ⟨B, 2, none⟩ = some (.int .i64 s)) (hBs : B < w.heap.size) :
    Calls Try.prog 79 #[.slice p l.length c, .int .i64 x, .func (.func 80) #[] #[.pointer (some ⟨B, 0, none⟩)]] w fun e w' => ∃ (i : Nat) (b : Bool), e = .returned (.tuple #[.int .i64 i, .bool b]) ∧ Plc s l x i b ∧ Below w.heap.size w w' := by
  have hmax := h.max
  have hcap := h.cap
  unfold maxLen at hmax
  have hlen := ho.len
  have HL := hid h
  have HO := hid ho
  have HC := hid (fun (U : World) (hU : Below w.heap.size w U) (y : Lv) => on_b (change1_any B s x y U ((hU.cell (p := ⟨B, 2, none⟩) hBs).trans hB) (Nat.lt_of_lt_of_le hBs hU.size)) hU)
  obtain ⟨n, hn⟩ : ∃ n, l.length = n := ⟨_, rfl⟩
  have HN := hid hn
  rw [hn] at hcap hlen ⊢
  clear h ho hn hB hBs
  go_enter Try.func79, Try.ntmps79
  go_wp2
  go_loopw [9, 10] (fun iv jv wr => ∃ i j : Nat, i ≤ j ∧ j ≤ n ∧ iv = .int .i64 i ∧ jv = .int .i64 j ∧ Hid (∀ k (hk : k < l.length), k < i → bt s l[k].pr x = true) ∧ Hid (∀ k (hk : k < l.length), j ≤ k → bt s l[k].pr x = false) ∧ Hid (Below w.heap.size w wr)) (fun iv jv _ => (intOf jv).toNat - (intOf iv).toNat)
  case atStart => exact ⟨0, n, by omega, by omega, rfl, rfl, fun k _ hk => by omega, fun k hk h => by have := HN.out; omega, Below.refl _ _⟩
  case round =>
    obtain ⟨i, j, hij, hj, rfl, rfl, H1, H2, HB⟩ := hrel
    by_cases hlt : i < j
    · obtain ⟨m, hm⟩ : ∃ m, (i + j) / 2 = m := ⟨_, rfl⟩
      have hm1 : i ≤ m := by omega
      have hm2 : m < j := by omega
      have hml : m < l.length := by have := HN.out; omega
      obtain ⟨g, o, rfl, _, a0, a1, a2⟩ := (HL.out.on HB.out).cells hml
      obtain ⟨y, hy⟩ : ∃ y, l[m] = y := ⟨_, rfl⟩
      rw [hy] at a0 a1 a2
      have HY := hid hy
      have b1 : IntKind.u64.wrap ((i : Int) + (j : Int)) = (i : Int) + (j : Int) := by rw [IntKind.wrap_u64]; omega
      have b2 : ((i : Int) + (j : Int)) / 2 = (m : Int) := by omega
      have b3 : IntKind.i64.wrap (m : Int) = (m : Int) := by rw [IntKind.wrap_i64]; omega
      have m0 : (0 : Int) ≤ (m : Int) := by omega
      have m1 : (m : Int) < (n : Int) := by omega
      have C := hid (HC.out wr HB.out y)
      obtain ⟨v, hv⟩ : ∃ v, od s y.pr x = v := ⟨_, rfl⟩
      rw [hv] at C
      have HV := hid hv
      have HM := hid hm
      clear hm hy hv
      by_cases v0 : v < 0
      · go_wp2_with (go_at_call 80; with_reducible refine (C.out).mono ?_; rintro e w1 ⟨rfl, HB1⟩)
        go_roundw
        case rel => exact ⟨m + 1, j, by omega, by omega, by go_num, rfl, fun k hk hkm => by
          have hbm : bt s l[m].pr x = true := by rw [HY.out]; exact od_neg.1 (by rw [HV.out]; exact v0)
          by_cases e : k = m
          · subst e; exact hbm
          · exact bt_trans (HO.out.lt hml (by omega)) hbm, H2.out, HB1.out⟩
        case measure => simp [intOf]; omega
      · have v0' : decide (v < 0) = false := by simpa using v0
        go_wp2_with (go_at_call 80; with_reducible refine (C.out).mono ?_; rintro e w1 ⟨rfl, HB1⟩)
        go_roundw
        case rel => exact ⟨i, m, hm1, by omega, rfl, rfl, H1.out, (fun k hk hkm => by
          have hbm : bt s l[m].pr x = false := by
            rw [HY.out]
            cases hq : bt s y.pr x with
            | false => rfl
            | true => have := od_neg.2 hq; rw [HV.out] at this; omega
          by_cases e : k = m
          · subst e; exact hbm
          · cases hq : bt s l[k].pr x with
            | false => rfl
            | true => have := bt_trans (HO.out.lt hk (show m < k by omega)) hq; rw [hbm] at this; cases this), HB1.out⟩
        case measure => simp [intOf]; omega
    · obtain rfl : i = j := by omega
      by_cases hin : i < n
      · have hil : i < l.length := by have := HN.out; omega
        obtain ⟨g, o, rfl, _, a0, a1, a2⟩ := (HL.out.on HB.out).cells hil
        obtain ⟨y, hy⟩ : ∃ y, l[i] = y := ⟨_, rfl⟩
        rw [hy] at a0 a1 a2
        have HY := hid hy
        have i0 : (0 : Int) ≤ (i : Int) := by omega
        have i1 : (i : Int) < (n : Int) := by omega
        have C := hid (HC.out wr HB.out y)
        obtain ⟨v, hv⟩ : ∃ v, od s y.pr x = v := ⟨_, rfl⟩
        rw [hv] at C
        have HV := hid hv
        clear hy hv
        go_wp2_with (go_at_call 80; with_reducible refine (C.out).mono ?_; rintro e w1 ⟨rfl, HB1⟩)
        go_ret2
        refine ⟨i, (v == 0), rfl, ⟨by omega, H1.out, H2.out, ?_⟩, HB1.out⟩
        have hnb := H2.out i hil (Nat.le_refl _)
        rw [HY.out] at hnb
        constructor
        · intro hz
          refine ⟨hil, ?_⟩
          rw [HY.out]
          have hz' : v = 0 := by simpa using hz
          refine bt_tri hnb ?_
          cases hq : bt s x y.pr with
          | false => rfl
          | true => have := od_pos.2 hq; rw [HV.out] at this; omega
        · rintro ⟨_, e⟩
          rw [HY.out] at e
          have := HV.out
          rw [e] at this
          simp [od, cm3] at this
          simp [← this]
      · go_wp2
        go_ret2
        exact ⟨i, false, rfl, ⟨by have := HN.out; omega, H1.out, H2.out, ⟨fun h => by (cases h), fun ⟨h, _⟩ => by have := HN.out; omega⟩⟩, HB.out⟩
end Go.Proofs.Ytojmcfkbekodpaa.Fd
namespace Go.Proofs.Ytojmcfkbekodpaa.Fd
open Go.RowKit Go.Deep
set_option linter.unusedVariables false
set_option linter.unusedSimpArgs false
set_option maxHeartbeats 4000000
set_option maxRecDepth 100000
theorem insert_end (b : Nat) (p : Option Addr) (c V : Nat) (l : List Lv) (x : Lv) (w : World) (h : Lo b w p c l) (hV : w.heap[V]? = some (.cells #[.int .i64 x.pr, .int .u64 x.qt, .int .i64 x.ct] 71 (0, 0))) (hl : l.length ≤ 262144) (hb : b ≤ w.heap.size) :
    Calls Try.prog 82 #[.slice p l.length c, .int .i64 l.length, .slice (some ⟨V, 0, none⟩) 1 1] w fun e w' => ∃ q d, e = .returned (.slice q (l.length + 1) d) ∧ Lo b w' q d (l ++ [x]) ∧ Kp (fun g => OfP p g) w w' ∧ Fr w.heap.size p q := by
  have hc := own_cap h
  have hc1 := hc.1
  have hc2 := hc.2.1
  unfold maxLen at hc2
  have HL := hid h
  have RN := hid (show ∀ ad, some (⟨V, 0, none⟩ : Addr) = some ad → ∀ j u, (lvc [x])[j]? = some u → w.cell? (ad.add j) = some u from by
    intro ad e j u hj
    injection e with e
    subst e
    rw [Addr.add_lit, Nat.zero_add, row_cell hV]
    simpa [lvc] using hj)
  have HLN := hid (lvc_len [x])
  have HB := hid hb
  have HNN := hid hc.2.2
  obtain ⟨n, hn⟩ : ∃ n, l.length = n := ⟨_, rfl⟩
  have HN := hid hn
  have HO := hid (show w.ownsRow b 71 3 (.slice p n c) n (lvc l) from by have := h; unfold Lo at this; rw [hn] at this; exact this)
  rw [hn] at hc1 hl HNN ⊢
  have q1 : ((n : Int) == (n : Int)) = true := by simp
  clear h hc hV hb hn
  obtain ⟨i0, hi, hz0, hz1, hz2⟩ := info_parts infoL3
  have HI := hid (And.intro hi (And.intro hz0 (And.intro hz1 hz2)))
  have FIN := hid (show ∀ (g cap : Nat) (w' : World), w'.ownsRow b 71 3 (.slice (some ⟨g, 0, none⟩) (n + 1) cap) (n + 1) (lvc l ++ lvc [x]) → w.grownBy w' (Value.slice p n c).ownBlock → ((Value.slice p n c).ownBlock = some g ∨ g = w.heap.size) → Lo b w' (some ⟨g, 0, none⟩) cap (l ++ [x]) ∧ Kp (fun g => OfP p g) w w' ∧ Fr w.heap.size p (some ⟨g, 0, none⟩) from fun g cap w' h1 h2 h3 => by
    refine ⟨?_, (Kp.refl _ _).grown h2 (fun j hj => own_blk HO.out hj), fun j hj => ?_⟩
    · unfold Lo
      rw [List.length_append, HN.out, lvc_app]
      exact h1
    · have e : j = g := OfP.eq hj
      subst e
      rcases h3 with h3 | h3
      · exact .inl (own_blk HO.out h3)
      · exact .inr (by omega))
  clear hi hz0 hz1 hz2
  cases p with
  | none =>
    obtain ⟨rfl, rfl⟩ := HNN.out rfl
    go_enter Try.func82, Try.ntmps82
    go_wp2_with (at_builtin; refine wpList_append_lies w (by rfl) (.tmp 23) (.tmp 24) 42 (by rfl) b 71 i0 _ 3 24 Try.underlying42 HI.out.1 HI.out.2.1 HI.out.2.2.1 HI.out.2.2.2 rfl (by decide) _ 0 (lvc l) (by rfl) HO.out ⟨V, 0, none⟩ 1 1 (lvc [x]) (by rfl) HLN.out (RN.out _ rfl) (lvc_one _) (by decide) (by unfold maxLen; omega) (by omega) HB.out _ rfl ?_; intro g cap w' h1 h2 h3 h4; have F := hid (FIN.out g cap w' h1 h2 h3); clear h1 h2 h3 h4)
    go_ret
    exact ⟨_, _, rfl, F.out.1, F.out.2.1, F.out.2.2⟩
  | some ad =>
    obtain ⟨m, hm⟩ : ∃ m, (n : Int) = m := ⟨_, rfl⟩
    clear hm m
    go_enter Try.func82, Try.ntmps82
    go_wp2_with (at_builtin; refine wpList_append_lies w (by rfl) (.tmp 23) (.tmp 24) 42 (by rfl) b 71 i0 _ 3 24 Try.underlying42 HI.out.1 HI.out.2.1 HI.out.2.2.1 HI.out.2.2.2 rfl (by decide) _ n (lvc l) (by rfl) HO.out ⟨V, 0, none⟩ 1 1 (lvc [x]) (by rfl) HLN.out (RN.out _ rfl) (lvc_one _) (by decide) (by unfold maxLen; omega) (by omega) HB.out _ rfl ?_; intro g cap w' h1 h2 h3 h4; have F := hid (FIN.out g cap w' h1 h2 h3); clear h1 h2 h3 h4)
    all_goals
      go_ret
      exact ⟨_, _, rfl, F.out.1, F.out.2.1, F.out.2.2⟩
theorem change_end (b : Nat) (p : Option Addr) (c : Nat) (l : List Lv) (d : Dm) (w : World) (h : Lo b w p c l) (ho : Lok d.sd l) (hd : dgn d = false) (ha : ∀ k (hk : k < l.length), bt d.sd l[k].pr d.pr = true) (hb : b ≤ w.heap.size) :
    Calls Try.prog 66 #[.slice p l.length c, .agg #[.int .u64 d.sq, .int .i64 d.kd, .int .i64 d.sd, .int .i64 d.pr, .int .u64 d.qt, .int .i64 d.ct]] w fun e w' => ∃ q c', e = .returned (.slice q (l.length + 1) c') ∧ Lo b w' q c' (l ++ [⟨d.pr, d.qt, d.ct⟩]) ∧ Kp (fun g => OfP p g) w w' ∧ Fr w.heap.size p q := by
  obtain ⟨R, hR⟩ : ∃ R, w.heap.size = R := ⟨_, rfl⟩
  obtain ⟨W, hW⟩ : ∃ W, w.alloc (.cells #[.int .u64 d.sq, .int .i64 d.kd, .int .i64 d.sd, .int .i64 d.pr, .int .u64 d.qt, .int .i64 d.ct] 47) = W := ⟨_, rfl⟩
  have hb0 : Below w.heap.size w W := by rw [← hW]; exact ball _ _
  have HD := hid (show W.heap[R]? = some (.cells #[.int .u64 d.sq, .int .i64 d.kd, .int .i64 d.sd, .int .i64 d.pr, .int .u64 d.qt, .int .i64 d.ct] 47 (0, 0)) from by rw [← hW, ← hR]; exact World.alloc_heap_new _ _)
  have G := hid (fun (U : World) => isGone_any d U)
  rw [hd] at G
  have CS := hid (bsearch_any R d.sd d.pr p c l W (h.rl.on hb0) ho (row_cell HD.out 2) (row_lt HD.out))
  have HLn := hid ho.len
  have HIns := hid (fun (U : World) (V : Nat) (hU : Below w.heap.size w U) (hV : U.heap[V]? = some (.cells #[.int .i64 d.pr, .int .u64 d.qt, .int .i64 d.ct] 71 (0, 0))) => insert_end b p c V l ⟨d.pr, d.qt, d.ct⟩ U (h.on hU) hV ho.len (Nat.le_trans hb hU.size))
  obtain ⟨n, hn⟩ : ∃ n, l.length = n := ⟨_, rfl⟩
  have HN := hid hn
  have HA := hid ha
  rw [hn] at CS HIns ⊢
  have HB := hid hb0
  have HW := hid hW
  have HR := hid hR
  obtain ⟨k0, k1, k2, k3, k4, k5⟩ := row6 HD.out
  clear h ho hd ha hb hb0 hW hR hn
  go_enter Try.func66, Try.ntmps66
  go_upto_region 1 with fail
  rw [HW.out, HR.out]
  go_upto_region 2 with (go_at_call 79; with_reducible refine (CS.out).mono ?_; rintro e w1 ⟨i, bb, rfl, hp, hb⟩; have HP := hid hp; have HB1 := hid hb; clear hp hb)
  have hin : i = n := by
    have := HP.out.le
    rw [HN.out] at this
    by_cases e : i < n
    · have h1 := HP.out.hi i (by have := HN.out; omega) (Nat.le_refl _)
      rw [HA.out i (by have := HN.out; omega)] at h1
      cases h1
    · omega
  subst hin
  have hbb : bb = false := by
    cases bb with
    | false => rfl
    | true => obtain ⟨h1, _⟩ := HP.out.b.1 rfl; have := HN.out; omega
  subst hbb
  clear k0 k1 k2 k3 k4 k5
  obtain ⟨k0, k1, k2, k3, k4, k5⟩ := row6 (row_on HD.out HB1.out)
  go_upto_region 3 with fail
  obtain ⟨W3, hW3⟩ : ∃ W3, w1.alloc (.cells #[.int .i64 d.pr, .int .u64 d.qt, .int .i64 d.ct] 71) = W3 := ⟨_, rfl⟩
  obtain ⟨R3, hR3⟩ : ∃ R3, w1.heap.size = R3 := ⟨_, rfl⟩
  have HB3 := hid (show Below W.heap.size W W3 from by rw [← hW3]; exact btr HB1.out (ball _ _))
  have HL3 := hid (show W3.heap[R3]? = some (.cells #[.int .i64 d.pr, .int .u64 d.qt, .int .i64 d.ct] 71 (0, 0)) from by rw [← hW3, ← hR3]; exact World.alloc_heap_new _ _)
  rw [hW3, hR3]
  clear hW3 hR3 k0 k1 k2 k3 k4 k5
  obtain ⟨k0, k1, k2, k3, k4, k5⟩ := row6 (row_on HD.out HB3.out)
  go_upto_region 8 with (go_at_call 65; with_reducible refine (G.out _).mono ?_; rintro e w4 ⟨rfl, hb⟩; have HB4 := hid (btr HB3.out hb); have HL4 := hid (row_on HL3.out hb); clear hb)
  obtain ⟨m0, m1, m2⟩ := row3 HL4.out
  have HV5 := hid (World.alloc_heap_new w4 (.cells #[.int .i64 d.pr, .int .u64 d.qt, .int .i64 d.ct] 71))
  have HB5 := hid (btr (btr HB.out HB4.out) (ball w4 (.cells #[.int .i64 d.pr, .int .u64 d.qt, .int .i64 d.ct] 71)))
  have CI := hid (HIns.out _ _ HB5.out HV5.out)
  go_wp2_with (go_at_call 82; with_reducible refine (CI.out).mono ?_; rintro e w6 ⟨q, c', rfl, h1, h2, h3⟩; have F1 := hid h1; have F2 := hid h2; have F3 := hid h3; clear h1 h2 h3)
  go_ret
  exact ⟨q, c', rfl, F1.out, (Kp.of _ HB5.out).trans F2.out (fun _ _ h => h), F3.out.mono HB5.out.size⟩
end Go.Proofs.Ytojmcfkbekodpaa.Fd
