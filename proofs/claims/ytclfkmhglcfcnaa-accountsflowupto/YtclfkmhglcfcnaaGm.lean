/-
  What flows to and from a position is its gain less its cost. Plainly.
-/
import Derived.Test.YtclfkmhglcfcnaaAcYp
import Derived.Test.YtclfkmhglcfcnaaGh
import Derived.Shelf.SlIter.Collect
import Derived.Deep.AppendLies
namespace Go.Proofs.Ytclfkmhglcfcnaa.Ac
open Go.RowKit Go.Deep Go.Maps Go.Proofs.Ytclfkmhglcfcnaa.MonM
set_option linter.unusedVariables false
set_option linter.unusedSimpArgs false
/-- so great is what a deal may be worth. -/
theorem maddV_eq {m n : Int} (h1 : -1000000000000000000000000000000000 ≤ m + n) (h2 : m + n ≤ 1000000000000000000000000000000000) : maddV m n = m + n := by
  unfold maddV
  rw [if_pos (by omega)]
theorem ptn_le (m a b : Int) (ha : 0 ≤ a) (hab : a ≤ b) (hb : 0 < b) : -absI m ≤ ptn m a b 0 ∧ ptn m a b 0 ≤ absI m := by
  obtain ⟨_, _, p0, p1⟩ := ptq_le m a b 0 ha hab hb
  unfold ptn
  split <;> omega
/-- what is left of a cost when a part of it is gone. -/
theorem ptn_left (m a b : Int) (ha : 0 ≤ a) (hab : a ≤ b) (hb : 0 < b) : absI (m - ptn m a b 0) ≤ absI m := by
  obtain ⟨_, _, p0, p1⟩ := ptq_le m a b 0 ha hab hb
  unfold ptn
  unfold absI at p1 ⊢
  split <;> (simp only [*, if_true, if_false] at p1; split <;> omega)
/-- a position within bounds. -/
structure Fb (p : Po) (c : Int) : Prop where
  co : absI p.co ≤ c
  fl : absI (p.ga - p.co) ≤ c
theorem Fb.mono {p : Po} {c c' : Int} (h : Fb p c) (hc : c ≤ c') : Fb p c' := ⟨Int.le_trans h.co hc, Int.le_trans h.fl hc⟩
theorem absI_add (m n : Int) : absI (m + n) ≤ absI m + absI n := by
  unfold absI
  split <;> split <;> split <;> omega
theorem absI_sub (m n : Int) : absI (m - n) ≤ absI m + absI n := by
  unfold absI
  split <;> split <;> split <;> omega
theorem bhp_flow (p : Po) (d m c v : Int) (h : Fb p c) (hd : d ≠ 0) (hv : absI m ≤ v) (hb : c + v ≤ 100000000000000000000000000000000) :
    (bhp p d m).ga - (bhp p d m).co = p.ga - p.co + m ∧ absI (bhp p d m).co ≤ c + v := by
  have hco := h.co
  have hfl := h.fl
  have n1 := absI_nn p.co
  have n2 := absI_nn m
  have n3 := absI_nn d
  obtain ⟨a0, a1⟩ := absI_of hco
  obtain ⟨b0, b1⟩ := absI_of hfl
  obtain ⟨e0, e1⟩ := absI_of hv
  unfold bhp
  split
  · refine ⟨?_, ?_⟩
    · show p.ga - maddV p.co (-m) = _
      rw [maddV_eq (by omega) (by omega)]
      omega
    · show absI (maddV p.co (-m)) ≤ _
      rw [maddV_eq (by omega) (by omega)]
      exact absI_le (by omega) (by omega)
  · rename_i hq
    have hq0 : p.qt ≠ 0 := fun e => hq (.inl e)
    have q0 : 0 < absI p.qt := by unfold absI; split <;> omega
    have d0 : 0 < absI d := by unfold absI; split <;> omega
    -- what closes
    have key : ∀ k, 0 ≤ k → k ≤ absI d → k ≤ absI p.qt → maddV p.co (-(ptn p.co k (absI p.qt) 0)) = p.co - ptn p.co k (absI p.qt) 0 ∧ absI (p.co - ptn p.co k (absI p.qt) 0) ≤ absI p.co ∧ maddV p.ga (maddV (ptn m k (absI d) 0) (-(ptn p.co k (absI p.qt) 0))) = p.ga + (ptn m k (absI d) 0 - ptn p.co k (absI p.qt) 0) ∧ absI (m - ptn m k (absI d) 0) ≤ absI m := by
      intro k k0 k1 k2
      obtain ⟨x0, x1⟩ := ptn_le p.co k (absI p.qt) k0 k2 q0
      obtain ⟨y0, y1⟩ := ptn_le m k (absI d) k0 k1 d0
      refine ⟨by rw [maddV_eq (by omega) (by omega)]; omega, ptn_left _ _ _ k0 k2 q0, ?_, ptn_left _ _ _ k0 k1 d0⟩
      rw [maddV_eq (m := ptn m k (absI d) 0) (by omega) (by omega), maddV_eq (by omega) (by omega)]
      omega
    split
    · rename_i hle
      obtain ⟨k1, k2, k3, k4⟩ := key (min (absI d) (absI p.qt)) (by omega) (by omega) (by omega)
      refine ⟨?_, ?_⟩
      · show maddV p.ga _ - maddV p.co _ = _
        rw [k1, k3, Int.min_eq_left hle]
        have e : ptn m (absI d) (absI d) 0 = m := ptn_all _ _ d0
        rw [e]
        omega
      · show absI (maddV p.co _) ≤ _
        rw [k1]
        omega
    · rename_i hle
      obtain ⟨k1, k2, k3, k4⟩ := key (min (absI d) (absI p.qt)) (by omega) (by omega) (by omega)
      obtain ⟨x0, x1⟩ := absI_of (Int.le_trans k2 hco)
      obtain ⟨y0, y1⟩ := absI_of (Int.le_trans k4 hv)
      have km : min (absI d) (absI p.qt) = absI p.qt := Int.min_eq_right (by omega)
      rw [km] at k1 k3 k2 k4 x0 x1 y0 y1
      have em : maddV m (-(ptn m (absI p.qt) (absI d) 0)) = m - ptn m (absI p.qt) (absI d) 0 := by
        rw [maddV_eq (by omega) (by omega)]
        omega
      have ec : (clv p d m).co = maddV (maddV p.co (-(ptn p.co (absI p.qt) (absI p.qt) 0))) (-(maddV m (-(ptn m (absI p.qt) (absI d) 0)))) := rfl
      have eg : (clv p d m).ga = maddV p.ga (maddV (ptn m (absI p.qt) (absI d) 0) (-(ptn p.co (absI p.qt) (absI p.qt) 0))) := rfl
      have ec2 : (clv p d m).co = p.co - ptn p.co (absI p.qt) (absI p.qt) 0 + -(m - ptn m (absI p.qt) (absI d) 0) := by
        rw [ec, k1, em, maddV_eq (by omega) (by omega)]
      refine ⟨?_, ?_⟩
      · rw [ec2, eg, k3]
        omega
      · rw [ec2]
        exact absI_le (by omega) (by omega)
end Go.Proofs.Ytclfkmhglcfcnaa.Ac
namespace Go.Proofs.Ytclfkmhglcfcnaa.Ac
open Go.RowKit Go.Deep Go.Maps Go.Proofs.Ytclfkmhglcfcnaa.MonM
set_option linter.unusedVariables false
set_option linter.unusedSimpArgs false
/-- what a deal brings to a member in an instrument. -/
def fl1 (m i : Int) (d : De) : Int := if d.it = i then (if d.bu = m then -(d.pr * d.qt) else 0) + (if d.se = m then d.pr * d.qt else 0) else 0
def flo (l : List De) (m i : Int) : Int := (l.map (fl1 m i)).sum
theorem flo_nil (m i : Int) : flo [] m i = 0 := rfl
theorem flo_snoc (l : List De) (d : De) (m i : Int) : flo (l ++ [d]) m i = flo l m i + fl1 m i d := by
  unfold flo
  induction l with
  | nil => simp
  | cons x l ih => rw [List.cons_append, List.map_cons, List.map_cons, List.sum_cons, List.sum_cons, ih]; omega
/-- a deal that may be booked. -/
structure Dl (d : De) : Prop where
  p0 : 0 ≤ d.pr
  p1 : d.pr < 262144
  q0 : 0 < d.qt
  q1 : d.qt < 4294967296
theorem Dl.val {d : De} (h : Dl d) : 0 ≤ d.pr * d.qt ∧ d.pr * d.qt ≤ 1125899906842624 := by
  obtain ⟨p0, p1, q0, q1⟩ := h
  have h0 : 0 ≤ d.pr * d.qt := Int.mul_nonneg p0 (by omega)
  have h1 : d.pr * d.qt ≤ 262144 * 4294967296 := Int.mul_le_mul (by omega) (by omega) (by omega) (by omega)
  omega
theorem fl1_le {d : De} (h : Dl d) (m i : Int) : absI (fl1 m i d) ≤ 1125899906842624 := by
  obtain ⟨h0, h1⟩ := h.val
  unfold fl1
  apply absI_le <;> split <;> (try split) <;> (try split) <;> omega
theorem flo_le {l : List De} (h : ∀ d ∈ l, Dl d) (m i : Int) : absI (flo l m i) ≤ 1125899906842624 * (l.length : Int) := by
  unfold flo
  induction l with
  | nil => simp [absI]
  | cons x l ih =>
    rw [List.map_cons, List.sum_cons]
    have h1 := absI_of (fl1_le (h x List.mem_cons_self) m i)
    have h2 := absI_of (ih (fun d hd => h d (List.mem_cons_of_mem _ hd)))
    have h3 : ((x :: l).length : Int) = l.length + 1 := by rw [List.length_cons]; omega
    rw [h3]
    apply absI_le <;> omega
/-- positions are what flowed. -/
structure Fw (s : Ls) (l : List De) : Prop where
  fl : ∀ m i, (s.g m i).ga - (s.g m i).co = flo l m i
  co : ∀ m i, absI (s.g m i).co ≤ 2251799813685248 * (l.length : Int)
  ok : ∀ d ∈ l, Dl d
theorem Fw.nil {s : Ls} (h : ∀ m i, s.g m i = ⟨0, 0, 0⟩) : Fw s [] := ⟨fun m i => by rw [h]; rfl, fun m i => by rw [h]; simp [absI], fun d hd => by cases hd⟩
theorem Fw.book {s s' : Ls} {d : De} {l : List De} (h : Fw s l) (hb : Bkd s d s') (hl : l.length ≤ 1099511627776) : Fw s' (l ++ [d]) := by
  have H := bkc_ok hb.bk
  have D : Dl d := ⟨H.p0, H.p1, H.q0, H.q1⟩
  obtain ⟨v0, v1⟩ := D.val
  have hq0 := H.q0
  have ok : ∀ x ∈ l ++ [d], Dl x := fun x hx => by
    rcases List.mem_append.1 hx with h1 | h1
    · exact h.ok x h1
    · simp at h1; rw [h1]; exact D
  have hlen : ((l ++ [d]).length : Int) = l.length + 1 := by rw [List.length_append]; simp
  have fb : ∀ m i, Fb (s.g m i) (2251799813685248 * (l.length : Int)) := fun m i => ⟨h.co m i, by rw [h.fl m i]; have := flo_le h.ok m i; omega⟩
  have va : absI (-(d.pr * d.qt)) ≤ 1125899906842624 := absI_le (by omega) (by omega)
  have vb : absI (d.pr * d.qt) ≤ 1125899906842624 := absI_le (by omega) (by omega)
  obtain ⟨A1, A2⟩ := bhp_flow (s.g d.bu d.it) d.qt (-(d.pr * d.qt)) _ _ (fb _ _) (by omega) va (by omega)
  have eA : bkA s d = bhp (s.g d.bu d.it) d.qt (-(d.pr * d.qt)) := rfl
  rw [← eA] at A1 A2
  have fA : Fb (bkA s d) (2251799813685248 * (l.length : Int) + 1125899906842624) := ⟨A2, by
    rw [A1, h.fl]
    have := absI_of (flo_le h.ok d.bu d.it)
    apply absI_le <;> omega⟩
  have C : (bkC s d).ga - (bkC s d).co = (if d.se = d.bu then (bkA s d).ga - (bkA s d).co else (s.g d.se d.it).ga - (s.g d.se d.it).co) + d.pr * d.qt ∧ absI (bkC s d).co ≤ 2251799813685248 * (l.length : Int) + 1125899906842624 + 1125899906842624 := by
    unfold bkC
    split
    · exact bhp_flow (bkA s d) (-d.qt) (d.pr * d.qt) _ _ fA (by omega) vb (by omega)
    · exact bhp_flow (s.g d.se d.it) (-d.qt) (d.pr * d.qt) _ _ ((fb _ _).mono (by omega)) (by omega) vb (by omega)
  obtain ⟨C1, C2⟩ := C
  rw [A1, h.fl, h.fl] at C1
  have eg : ∀ m i, s'.g m i = if m = d.se ∧ i = d.it then bkC s d else if m = d.bu ∧ i = d.it then bkA s d else s.g m i := fun m i => by
    rw [hb.st, bkd_g]
    rfl
  refine ⟨fun m i => ?_, fun m i => ?_, ok⟩
  · rw [eg, flo_snoc]
    unfold fl1
    by_cases hi : i = d.it
    · subst hi
      rw [if_pos rfl]
      by_cases hs : m = d.se
      · rw [if_pos ⟨hs, rfl⟩, C1, if_pos hs.symm]
        by_cases hbm : d.bu = m
        · rw [if_pos (by omega), if_pos hbm, hbm]
          omega
        · rw [if_neg (by omega), if_neg hbm, hs]
          omega
      · have g1 : ¬ (m = d.se ∧ d.it = d.it) := fun e => hs e.1
        have g2 : ¬ d.se = m := fun e => hs e.symm
        by_cases hbm : m = d.bu
        · have g3 : m = d.bu ∧ d.it = d.it := ⟨hbm, rfl⟩
          have g4 : d.bu = m := hbm.symm
          rw [if_neg g1, if_neg g2, if_pos g3, if_pos g4, A1, h.fl, hbm]
          omega
        · have g3 : ¬ (m = d.bu ∧ d.it = d.it) := fun e => hbm e.1
          have g4 : ¬ d.bu = m := fun e => hbm e.symm
          rw [if_neg g1, if_neg g2, if_neg g3, if_neg g4, h.fl]
          omega
    · rw [if_neg (fun e => hi e.2), if_neg (fun e => hi e.2), if_neg (fun e => hi e.symm), h.fl]
      omega
  · rw [eg, hlen]
    split
    · omega
    · split
      · omega
      · have := h.co m i
        omega
end Go.Proofs.Ytclfkmhglcfcnaa.Ac
namespace Go.Proofs.Ytclfkmhglcfcnaa.Ac
open Go.RowKit Go.Deep Go.Maps Go.Proofs.Ytclfkmhglcfcnaa.MonM
set_option linter.unusedVariables false
set_option linter.unusedSimpArgs false
set_option maxHeartbeats 8000000
set_option maxRecDepth 100000
attribute [local go_sem ↓] Go.wp_at_zero Go.wp_at_succ
/-- deals that came in. -/
def Dz (w : World) (q : Option Addr) (l : List De) : Prop := ∀ i (h : i < l.length), ∃ b off, q = some ⟨b, off, none⟩ ∧ b < w.heap.size ∧ ∀ j, j < 6 → w.cell? ⟨b, off + i * 6 + j, none⟩ = (l[i].row)[j]?
theorem Dz.at {w : World} {q : Option Addr} {l : List De} (h : Dz w q l) {i : Nat} (hi : i < l.length) : ∃ b off, q = some ⟨b, off, none⟩ ∧ ∀ U, Below w.heap.size w U → U.cell? ⟨b, off + i * 6, none⟩ = some (.int .u32 l[i].it) ∧ U.cell? ⟨b, off + i * 6 + 1, none⟩ = some (.int .u32 l[i].bu) ∧ U.cell? ⟨b, off + i * 6 + 2, none⟩ = some (.int .u32 l[i].se) ∧ U.cell? ⟨b, off + i * 6 + 3, none⟩ = some (.int .i64 l[i].ta) ∧ U.cell? ⟨b, off + i * 6 + 4, none⟩ = some (.int .i64 l[i].pr) ∧ U.cell? ⟨b, off + i * 6 + 5, none⟩ = some (.int .u64 l[i].qt) := by
  obtain ⟨b, off, e, hb, hc⟩ := h i hi
  refine ⟨b, off, e, fun U hU => ?_⟩
  have g : ∀ j, j < 6 → U.cell? ⟨b, off + i * 6 + j, none⟩ = (l[i].row)[j]? := fun j hj => by rw [hU.cell (p := ⟨b, off + i * 6 + j, none⟩) hb]; exact hc j hj
  exact ⟨g 0 (by decide), g 1 (by decide), g 2 (by decide), g 3 (by decide), g 4 (by decide), g 5 (by decide)⟩
theorem ptr_nil (B : Nat) (U : World) : (binOp .eql 28 (.pointer (some ⟨B, 0, none⟩)) (.pointer none)).run Try.prog U = .ok (.bool false) U := by kernel_rfl
end Go.Proofs.Ytclfkmhglcfcnaa.Ac
namespace Go.Proofs.Ytclfkmhglcfcnaa.Ac
open Go.RowKit Go.Deep Go.Maps Go.Sort Go.Shelf Go.Proofs.Ytclfkmhglcfcnaa.MonM
set_option linter.unusedVariables false
set_option linter.unusedSimpArgs false
def ivU (x : Int) : Value := .int .u32 x
set_option maxRecDepth 100000 in
set_option maxHeartbeats 1000000 in
/-- the iterator of maps.Keys, whatever is done with each key. -/
theorem ky_walk (F : Fence) (n : Nat) (h48 : F.fn 48) (hro : F.round = none) (hn : 1 ≤ n) (l Bm b nn : Nat) (D0 : DataW Unit) (J : List Int → World → Prop)
    (hY : ∀ pre x W, J pre W → pre.length < Maps.size D0 → YieldAt F (n - 1) Try.prog l #[ivU x] W fun e W' => e = .returned (.bool true) ∧ J (pre ++ [x]) W' ∧ KeepsWalks W W')
    (W : World) (hJ : AbidesFrom W.heap.size J) (hm : W.cell? ⟨Bm, 0, none⟩ = some (.map (some b))) (hown : W.ownsMap Try.prog 22 rd5 b nn D0) (h0 : J [] W) :
    CallsIn F n Try.prog 48 #[.func (.yield l) #[] #[], .pointer (some ⟨Bm, 0, none⟩)] W fun e W' => (∃ v, e = .returned v) ∧ ∃ ss : List Int, ((∀ x ∈ ss, U32 x) ∧ ss.length ≤ Maps.size D0) ∧ J ss W' := by
  refine callsIn_of_wp Try.func48 rfl h48 ?_ hro
  simp only [Try.ntmps48, List.size_toArray, List.length_cons, List.length_nil, Nat.reduceAdd, Nat.reduceSub, Array.replicate_succ, Array.replicate_zero, List.push_toArray, List.append_toArray, List.nil_append, List.cons_append]
  gi_wp2_with (first
    | (gi_at_range; refine wpListIn_range_own _ rfl _ 73 rfl 22 44 lawU Try.underlying73 _ b nn _ rfl hown ?_; intro w0 hrg0 hg0 hs0)
    | gi_in)
  go_frame
  gi_loopw [3] (fun _ wr => ∃ (left : Lit → Bool) (cnt : Nat) (ss : List Int), wr.ranges Try.prog 22 rd5 b W.heap.size nn D0 left cnt ∧ ss.length + cnt ≤ Maps.size D0 ∧ (∀ x ∈ ss, U32 x) ∧ J ss wr)
    (fun _ wr => wr.rangeLeft b W.heap.size)
  case atStart =>
    exact ⟨_, _, [], hrg0, by simp, fun x hx => (by cases hx), hJ [] W w0 none h0 hg0 (fun r e => by cases e)⟩
  case round =>
    obtain ⟨left, cnt, ss, hrg, hcs, hC, hJs⟩ := hrel
    gi_wp2_with (first
      | (gi_at_next; refine wpListIn_next_ranges _ rfl _ rfl 22 lawU rd5 ivU id (fun key kl hk => by obtain ⟨x, hx, _⟩ := Maps.keyOf_int_inv Try.underlying22 hk; exact ⟨x, hx⟩) (fun v _ _ => ⟨v, rfl⟩) b W.heap.size nn _ _ _ rfl hrg ?_ ?_)
      | gi_in)
    · intro hc0 hl0
      gi_wp2
      go_end0
      exact ⟨⟨_, rfl⟩, ss, ⟨hC, by omega⟩, hJs⟩
    · intro x c kl yd yp w2 cnt2 hkey hlk hv hat hrg2 hlt hg2 hs2 hen
      have hx : U32 x := by
        obtain ⟨x', ex, _, hw⟩ := Maps.keyOf_int_inv Try.underlying22 hkey
        have ex : Value.int .u32 x = .int .u32 x' := ex
        injection ex with _ ex
        rw [ex]
        exact hw
      have hJ2 : J ss w2 := hJ ss wr w2 (some W.heap.size) hJs hg2 (fun r e => by cases e; exact ⟨Nat.le_refl _, hrg.iter_walk⟩)
      obtain ⟨fn, tmps, assign, body, hy, hR⟩ := hY ss x w2 hJ2 (by omega)
      clear hs2
      gi_wp2
      refine hR.mono ?_
      rintro e W3 ⟨rfl, hJ3, hk3⟩
      gi_wp2
      have hrg3 := hrg2.of_walks hk3
      go_roundw
      case rel =>
        refine ⟨_, cnt2, ss ++ [x], hrg3, by simp; omega, fun y hy => ?_, hJ3⟩
        rcases List.mem_append.1 hy with hy | hy
        · exact hC y hy
        · simp at hy; rw [hy]; exact hx
      case measure => rw [hrg3.left_eq, hrg.left_eq]; exact hlt
set_option maxRecDepth 100000 in
set_option maxHeartbeats 1000000 in
theorem ky_walk0 (F : Fence) (n : Nat) (h48 : F.fn 48) (hro : F.round = none) (l Bm : Nat) (J : List Int → World → Prop) (W : World) (hJ : AbidesFrom W.heap.size J) (hm : W.cell? ⟨Bm, 0, none⟩ = some (.map none)) (h0 : J [] W) :
    CallsIn F n Try.prog 48 #[.func (.yield l) #[] #[], .pointer (some ⟨Bm, 0, none⟩)] W fun e W' => (∃ v, e = .returned v) ∧ ∃ ss : List Int, ((∀ x ∈ ss, U32 x) ∧ ss.length ≤ 0) ∧ J ss W' := by
  refine callsIn_of_wp Try.func48 rfl h48 ?_ hro
  simp only [Try.ntmps48, List.size_toArray, List.length_cons, List.length_nil, Nat.reduceAdd, Nat.reduceSub, Array.replicate_succ, Array.replicate_zero, List.push_toArray, List.append_toArray, List.nil_append, List.cons_append]
  have hrg := range_none W 73 22 44 Try.underlying73
  have hnx := fun ty => next_none (W.alloc (.mapIter none 0 #[] 0)) W.heap.size ty (World.alloc_heap_new _ _)
  gi_wp2
  refine wpIn_loop_rounds 1 ?_
  rw [roundsIn_succ]
  gi_wp2
  go_end0
  exact ⟨⟨_, rfl⟩, [], ⟨fun x hx => (by cases hx), Nat.le_refl _⟩, hJ [] W _ none h0 (World.grownBy_alloc W _ none) (fun r e => by cases e)⟩
/-- what maps.Keys hands back gives numbers of 32 bits, not more than the map holds. -/
theorem ky_gives (F : Fence) (n : Nat) (h48 : F.fn 48) (hro : F.round = none) (hn : 1 ≤ n) (Bm k : Nat) (o : Option Nat) (w : World) (hBm : Bm < w.heap.size)
    (hm : w.cell? ⟨Bm, 0, none⟩ = some (.map o)) (hown : ∀ b, o = some b → ∃ f, Mp kvP w b k f) :
    ∃ N, N ≤ k ∧ SeqGives F n Try.prog 48 #[.pointer (some ⟨Bm, 0, none⟩)] ivU (fun ss => (∀ x ∈ ss, U32 x) ∧ ss.length ≤ N) N w := by
  cases o with
  | none => exact ⟨0, Nat.zero_le _, fun l J W hW hJ hY h0 => ky_walk0 F n h48 hro l Bm J W hJ ((hW.cell (p := ⟨Bm, 0, none⟩) hBm).trans hm) h0⟩
  | some b =>
    obtain ⟨f, D, h1, _, _⟩ := hown b rfl
    refine ⟨Maps.size D, h1.size_le, fun l J W hW hJ hY h0 => ?_⟩
    have hown' : W.ownsMap Try.prog 22 rd5 b k D := by
      have hbl := h1.lt
      obtain ⟨es, clock, hb, Ft, hs, hD⟩ := h1
      exact ⟨es, clock, (hW.block b hbl).trans hb, Ft, hs, hD⟩
    exact ky_walk F n h48 hro hn l Bm b k D J hY W hJ ((hW.cell (p := ⟨Bm, 0, none⟩) hBm).trans hm) hown' h0
def apAssign : Code := Code.region 2 #[{ dst := some 5, op := Op.assign (Operand.tmp 7), type := 22, pos := "iter.go:51", after := #[], guard := none }] false
def apBody : Code := Code.block 1 (Code.region 3 #[{ dst := some 8, op := Op.load 25 (Operand.tmp 2), type := 25, pos := "iter.go:52", after := #[], guard := none }, { dst := some 9, op := Op.move (Operand.tmp 5), type := 22, pos := "iter.go:52", after := #[], guard := none }, { dst := some 10, op := Op.buildSlice 25 1 #[(0, Operand.tmp 9)], type := 25, pos := "iter.go:52", after := #[{ on := 1, ground := Ground.data }], guard := none }, { dst := some 11, op := Op.call { callee := Callee.builtin Builtin.append, args := #[Operand.tmp 8, Operand.tmp 10], argTypes := #[25, 25] }, type := 25, pos := "iter.go:52", after := #[{ on := 0, ground := Ground.data }, { on := 2, ground := Ground.data }], guard := none }, { dst := none, op := Op.store 25 (Operand.tmp 2) (Operand.tmp 11), type := 0, pos := "iter.go:52", after := #[{ on := 3, ground := Ground.data }, { on := 3, ground := Ground.chain }, { on := 0, ground := Ground.phase }, { on := 1, ground := Ground.phase }, { on := 2, ground := Ground.phase }, { on := 3, ground := Ground.phase }], guard := none }] false)
/-- the loop's record. -/
def apRec (fn : FuncId) (sv : Value) (Bs D : Nat) (st : LoopState) (pend : Option Code) : Loop :=
  { state := st, pending := pend, fn, tmps := #[.slice none 0 0, sv, .pointer (some ⟨Bs, 0, none⟩), undef, .slice none 0 0, undef, sv, undef, undef, undef, undef, undef, undef], params := #[7], assign := apAssign, body := apBody, defers := D }
/-- between two rounds of the loop. -/
structure ApAt (w0 : World) (fn : FuncId) (sv : Value) (Bs l D : Nat) (ss : List Int) (W : World) : Prop where
  box : ∃ v, W.heap[Bs]? = some (.cells #[v] 25 (0, 0)) ∧ W.ownsRow w0.heap.size 22 1 v ss.length (Sr.ivs ss)
  L : W.heap[l]? = some (.loop (apRec fn sv Bs D .ready none))
  K : W.heap[D]? = some (.deferred (some []))
  below : Below w0.heap.size w0 W
theorem ap_abides (w0 : World) (fn : FuncId) (sv : Value) (Bs l D B : Nat) (hB : w0.heap.size ≤ B) : AbidesFrom B (ApAt w0 fn sv Bs l D) := fun s W W' row h hg hrow => by
  have hrow' : ∀ r, row = some r → ∃ o : Obj, W.heap[r]? = some o ∧ o.isWalk = true := fun r e => (hrow r e).2
  obtain ⟨v, hv, hr⟩ := h.box
  exact ⟨⟨v, (grownBy_keeps hg hrow' hv rfl).trans hv, ownsRow_abides_a hr hg hrow'⟩, (grownBy_keeps hg hrow' h.L rfl).trans h.L, (grownBy_keeps hg hrow' h.K rfl).trans h.K, h.below.grown hg h.below.size (fun k e => Nat.le_trans hB (hrow k e).1)⟩
theorem ne25 {cur cur' : Array Value} {z z' : Nat × Nat} : Obj.cells cur 25 z ≠ .cells cur' 22 z' := fun e => by
  have := (Obj.cells.inj e).2.1
  cases this
set_option maxRecDepth 100000 in
set_option maxHeartbeats 2000000 in
theorem ap_yield (F : Fence) (m : Nat) (w0 : World) (fn : FuncId) (hfn : F.fn fn) (sv : Value) (Bs l D : Nat) (hBl : Bs ≠ l) (hDl : D ≠ l) (hDB : D ≠ Bs) (h0B : w0.heap.size ≤ Bs) (h0l : w0.heap.size ≤ l)
    (N : Nat) (hN : N ≤ 1000000000000) (ss : List Int) (x : Int) (W : World) (h : ApAt w0 fn sv Bs l D ss W) (hlen : ss.length < N) :
    YieldAt F m Try.prog l #[ivU x] W fun e W' => e = .returned (.bool true) ∧ ApAt w0 fn sv Bs l D (ss ++ [x]) W' ∧ KeepsWalks W W' := by
  obtain ⟨i0, hi, hz0, hz1, hz2⟩ : ∃ i0, Try.prog.info? 22 = some i0 ∧ i0.zero = some (.int .u32 0) ∧ i0.size = 1 ∧ i0.bytes = 4 := by
    have := Sr.infoU
    cases hh : Try.prog.info? 22 with
    | none => rw [hh] at this; cases this
    | some i => rw [hh] at this; simp at this; exact ⟨i, rfl, this.1, this.2.1, this.2.2⟩
  obtain ⟨v, hv, hrow⟩ := h.box
  refine ⟨fn, #[.slice none 0 0, sv, .pointer (some ⟨Bs, 0, none⟩), undef, .slice none 0 0, undef, sv, ivU x, undef, undef, undef, undef, undef], apAssign, apBody, by simpa [apRec] using run_yield (P := Try.prog) (args := #[ivU x]) h.L rfl, roundIn_of_wpIn hfn ?_⟩
  have hl : l < W.heap.size := (Array.getElem?_eq_some_iff.1 h.L).1
  have hbr := run_beginRound (P := Try.prog) h.L rfl
  obtain ⟨W2, hW2⟩ : ∃ W2, W.putObj l (.loop { apRec fn sv Bs D .ready none with state := .busy }) = W2 := ⟨_, rfl⟩
  rw [hW2] at hbr
  have hg2 : W.grownBy W2 (some l) := by rw [← hW2]; exact grownBy_putObj_a _ _ _
  have hk2 : KeepsWalks W W2 := by rw [← hW2]; exact KeepsWalks.putObj _ h.L rfl
  have hv2 : W2.heap[Bs]? = some (.cells #[v] 25 (0, 0)) := by rw [← hW2]; exact (World.putObj_heap_other hBl).trans hv
  have hK2 : W2.heap[D]? = some (.deferred (some [])) := by rw [← hW2]; exact (World.putObj_heap_other hDl).trans h.K
  have hL2 : W2.heap[l]? = some (.loop { apRec fn sv Bs D .ready none with state := .busy }) := by rw [← hW2]; exact World.putObj_heap_same hl
  have hrow2 : W2.ownsRow w0.heap.size 22 1 v ss.length (Sr.ivs ss) := hrow.kept hg2 (ownsRow_ne_a hrow h.L (fun cur e => by cases e))
  have hb2 : Below w0.heap.size w0 W2 := h.below.grown hg2 h.below.size (fun k e => by cases e; exact h0l)
  obtain ⟨hc2, hf2⟩ := cell_of_box_a hv2
  have hBlt : Bs < W2.heap.size := (Array.getElem?_eq_some_iff.1 hv2).1
  have hl2 : l < W2.heap.size := (Array.getElem?_eq_some_iff.1 hL2).1
  have hDlt : D < W2.heap.size := (Array.getElem?_eq_some_iff.1 hK2).1
  have ne_of : ∀ {j : Nat} {o : Obj}, W2.heap[j]? = some o → (∀ cur, o ≠ .cells cur 22 (0, 0)) → some j ≠ v.ownBlock := fun hj hno => by
    rcases ownsRow_ne_a hrow2 hj hno with e | e
    · rw [e]; simp
    · exact fun e' => e e'.symm
  clear hW2
  unfold apAssign ivU
  gi_wp2_with gi_round_op_a
  unfold apBody
  gi_wp2_with (first
    | (gi_at_builtin; refine wpListIn_append_own _ rfl _ _ 25 rfl w0.heap.size 22 i0 (.int .u32 0) 1 4 Try.underlying25 hi hz0 hz1 hz2 rfl (by decide) _ _ _ rfl (hrow2.alloc _) ⟨W2.heap.size, 0, none⟩ 1 1 [.int .u32 x] rfl rfl (cell_one_new _ _ _) (by simp [Value.oneCell']) (by unfold maxLen; omega) (by omega) (by have := hb2.size; simp; omega) ?_; intro v' w3 hown' hg3 hnil3
       have hv3 : w3.heap[Bs]? = some (.cells #[v] 25 (0, 0)) := (hg3.block Bs (by simp; omega) (ne_of hv2 (fun cur e => ne25 e))).trans ((Below.heap_alloc _ _ Bs hBlt).trans hv2)
       obtain ⟨hc3, hf3⟩ := cell_of_box_a hv3
       obtain ⟨g', cap', cur', rfl, hbase', hgb', hr1, hr2, hr3, hr4⟩ : ∃ g' cap' cur', v' = .slice (some ⟨g', 0, none⟩) (ss.length + 1) cap' ∧ w0.heap.size ≤ g' ∧ w3.heap[g']? = some (.cells cur' 22 (0, 0)) ∧ ss.length + 1 ≤ cap' ∧ cap' ≤ maxLen ∧ cur'.size = cap' * 1 ∧ cur'.toList.take ((ss.length + 1) * 1) = Sr.ivs ss ++ [.int .u32 x] := by
         rcases hown'.2 with ⟨_, h0⟩ | h'
         · exact absurd h0 (by omega)
         · exact h'
       go_frame)
    | gi_round_op_a)
  have hg3' : (W2.alloc (.cells #[.int .u32 x] 22)).grownBy w3 v.ownBlock := hg3
  have hL3 : w3.heap[l]? = some (.loop { apRec fn sv Bs D .ready none with state := .busy }) := (hg3'.block l (by simp; omega) (ne_of hL2 (fun cur e => by cases e))).trans ((Below.heap_alloc _ _ l hl2).trans hL2)
  have hK3 : w3.heap[D]? = some (.deferred (some [])) := (hg3'.block D (by simp; omega) (ne_of hK2 (fun cur e => by cases e))).trans ((Below.heap_alloc _ _ D hDlt).trans hK2)
  obtain ⟨w4, hw4⟩ : ∃ w4, w3.setCell ⟨Bs, 0, none⟩ (.slice (some ⟨g', 0, none⟩) (ss.length + 1) cap') = w4 := ⟨_, rfl⟩
  rw [hw4]
  have hg4 : w3.grownBy w4 (some Bs) := by rw [← hw4]; exact grownBy_setCell0_a _ _ _
  have hv4 : w4.heap[Bs]? = some (.cells #[.slice (some ⟨g', 0, none⟩) (ss.length + 1) cap'] 25 (0, 0)) := by rw [← hw4]; exact heap_setCell_box_a _ hv3
  have hL4 : w4.heap[l]? = some (.loop { apRec fn sv Bs D .ready none with state := .busy }) := (hg4.block l (Array.getElem?_eq_some_iff.1 hL3).1 (fun e => hBl (by cases e; rfl))).trans hL3
  have hK4 : w4.heap[D]? = some (.deferred (some [])) := (hg4.block D (Array.getElem?_eq_some_iff.1 hK3).1 (fun e => hDB (by cases e; rfl))).trans hK3
  have hrow4 := hown'.kept hg4 (ownsRow_ne_a hown' hv3 (fun cur e => ne25 e))
  have hl4 : l < w4.heap.size := (Array.getElem?_eq_some_iff.1 hL4).1
  have hb3 : Below w0.heap.size w0 w3 := (hb2.alloc hb2.size _).grown hg3' (by have := hb2.size; simp; omega) (fun k e => (hrow2.lt k e).1)
  have hb4 : Below w0.heap.size w0 w4 := hb3.grown hg4 hb3.size (fun k e => by cases e; exact h0B)
  have hk4 : KeepsWalks W w4 := ((hk2.trans (KeepsWalks.alloc _ _)).trans (KeepsWalks.of_grownBy hg3' (ownsRow_not_walk_a (hrow2.alloc _)))).trans (by rw [← hw4]; exact KeepsWalks.setCell _ _ _)
  clear hw4
  refine ⟨_, _, run_endRound none hL4, rfl, ⟨⟨_, (World.putObj_heap_other hBl).trans hv4, ?_⟩, World.putObj_heap_same hl4, (World.putObj_heap_other hDl).trans hK4, hb4.grown (grownBy_putObj_a _ _ _) hb4.size (fun k e => by cases e; exact h0l)⟩, hk4.trans (KeepsWalks.putObj _ hL4 rfl)⟩
  have := hrow4.kept (grownBy_putObj_a w4 l (.loop { { apRec fn sv Bs D .ready none with state := .busy } with state := if (none : Option Code).isNone then .ready else .done, pending := none })) (ownsRow_ne_a hrow4 hL4 (fun cur e => by cases e))
  rw [ivs_snoc, List.length_append]
  exact this
set_option maxRecDepth 100000 in
set_option maxHeartbeats 2000000 in
theorem ap_seq (F : Fence) (n : Nat) (h66 : F.fn 66) (hro : F.round = none) (hn : 2 ≤ n) (g : Nat) (lb : Array Value) (hFg : F.fn g) (eg : ∀ args w, (callFunc g args).run Try.prog w = .ok (.enter g args) w)
    (S : List Int → Prop) (N : Nat) (hN : N ≤ 1000000000000) (w : World) (hseq : SeqGives F (n - 1) Try.prog g lb ivU S N w) :
    CallsIn F n Try.prog 66 #[.slice none 0 0, .func (.func g) #[] lb] w fun e w' => ∃ (v : Value) (ss : List Int), e = .returned v ∧ S ss ∧ w'.ownsRow w.heap.size 22 1 v ss.length (Sr.ivs ss) ∧ Below w.heap.size w w' := by
  have h1 : 1 ≤ n := by omega
  refine callsIn_of_wp_marks Try.func66 rfl h66 ?_ hro
  simp only [Try.ntmps66, List.size_toArray, List.length_cons, List.length_nil, Nat.reduceAdd, Nat.reduceSub, Array.replicate_succ, Array.replicate_zero, List.push_toArray, List.append_toArray, List.nil_append, List.cons_append]
  gi_wp2
  refine wpIn_rangeFunc ?_
  intro fn hfn
  rw [hro]
  obtain ⟨W0, hW0⟩ : ∃ W0, w.alloc (.cells #[.slice none 0 0] 25) = W0 := ⟨_, rfl⟩
  have hs0 : W0.heap.size = w.heap.size + 1 := by rw [← hW0]; simp
  have hv0 : W0.heap[w.heap.size]? = some (.cells #[.slice none 0 0] 25 (0, 0)) := by rw [← hW0]; exact World.alloc_heap_new w _
  have hb0 : Below w.heap.size w W0 := by rw [← hW0]; exact (Below.refl _ w).alloc (Nat.le_refl _) _
  rw [hW0]
  obtain ⟨W1, hW1⟩ : ∃ W1, (W0.alloc (.deferred (some []))).alloc (.loop (apRec fn (.func (.func g) #[] lb) w.heap.size W0.heap.size .ready none)) = W1 := ⟨_, rfl⟩
  have hold : ∀ k, k < W0.heap.size → W1.heap[k]? = W0.heap[k]? := fun k hk => by
    rw [← hW1]; exact (Below.heap_alloc _ _ k (by simp; omega)).trans (Below.heap_alloc _ _ k hk)
  have hb1 : Below w.heap.size w W1 := by rw [← hW1]; exact (hb0.alloc hb0.size _).alloc (by have := hb0.size; simp; omega) _
  have hM : ApAt w fn (.func (.func g) #[] lb) w.heap.size (W0.heap.size + 1) W0.heap.size [] W1 :=
    ⟨⟨_, (hold w.heap.size (by omega)).trans hv0, ⟨rfl, .inl ⟨rfl, rfl⟩⟩⟩,
     by rw [← hW1]; have := World.alloc_heap_new (W0.alloc (.deferred (some []))) (.loop (apRec fn (.func (.func g) #[] lb) w.heap.size W0.heap.size .ready none)); rwa [World.size_alloc] at this,
     by rw [← hW1]; exact (Below.heap_alloc _ _ _ (by simp)).trans (World.alloc_heap_new W0 _), hb1⟩
  refine ⟨W0.heap.size + 1, [{ target := .collected W0.heap.size, args := #[] }], W1, { target := .fn (.func g) lb, args := #[.func (.yield (W0.heap.size + 1)) #[] #[]] }, W1, g,
    #[.func (.yield (W0.heap.size + 1)) #[] #[]] ++ lb, W1, ?_, ?_, ?_, ?_, fun _ => h1, ?_⟩
  · rw [← hW1]; exact run_enterLoop_outer _ _ _ _ _
  · simp [resolve, go_sem]
  · intro f' hf'; simp [Target.leads] at hf'; subst hf'; exact hFg
  · simp [invoke, go_sem, eg]
  · refine (hseq (W0.heap.size + 1) (ApAt w fn (.func (.func g) #[] lb) w.heap.size (W0.heap.size + 1) W0.heap.size) W1 hb1 (ap_abides _ _ _ _ _ _ _ hb1.size)
      (fun pre x W hJ hl => ap_yield F (n - 1 - 1) w fn hfn _ w.heap.size (W0.heap.size + 1) W0.heap.size (by omega) (by omega) (by omega) (Nat.le_refl _) (by omega) N hN pre x W hJ hl) hM).mono ?_
    rintro e W2 ⟨⟨v0, rfl⟩, ss, hS, h2⟩
    obtain ⟨v, hv, hrow⟩ := h2.box
    have hend := run_endLoop (P := Try.prog) h2.L (by simp [apRec])
    obtain ⟨W3, hW3⟩ : ∃ W3, W2.putObj (W0.heap.size + 1) (.loop { apRec fn (.func (.func g) #[] lb) w.heap.size W0.heap.size .ready none with state := .exhausted }) = W3 := ⟨_, rfl⟩
    rw [hW3] at hend
    have hg3 : W2.grownBy W3 (some (W0.heap.size + 1)) := by rw [← hW3]; exact grownBy_putObj_a _ _ _
    have hv3 : W3.heap[w.heap.size]? = some (.cells #[v] 25 (0, 0)) := by rw [← hW3]; exact (World.putObj_heap_other (by omega)).trans hv
    have hK3 : W3.heap[W0.heap.size]? = some (.deferred (some [])) := by rw [← hW3]; exact (World.putObj_heap_other (by omega)).trans h2.K
    have hrow3 := hrow.kept hg3 (ownsRow_ne_a hrow h2.L (fun cur e => by cases e))
    have hb3 : Below w.heap.size w W3 := h2.below.grown hg3 h2.below.size (fun k e => by cases e; omega)
    obtain ⟨hc3, hf3⟩ := cell_of_box_a hv3
    clear hW3
    refine ⟨none, W3, hend, ?_⟩
    gi_wp2
    rw [← hs0]
    refine ⟨by simp, .inl ⟨_, _, rfl, run_takeDeferred hK3, ?_⟩⟩
    exact ⟨_, results_tmp rfl _ _ _, v, ss, rfl, hS, hrow3.kept (grownBy_putObj_a _ _ _) (ownsRow_ne_a hrow3 hK3 (fun cur e => by cases e)), hb3.grown (grownBy_putObj_a _ _ _) hb3.size (fun k e => by cases e; omega)⟩
end Go.Proofs.Ytclfkmhglcfcnaa.Ac
namespace Go.Proofs.Ytclfkmhglcfcnaa.Ac
open Go.RowKit Go.Deep Go.Maps Go.Shelf Go.Proofs.Ytclfkmhglcfcnaa.MonM
set_option linter.unusedVariables false
set_option linter.unusedSimpArgs false
set_option maxHeartbeats 8000000
set_option maxRecDepth 100000
attribute [local go_sem ↓] Go.wp_at_zero Go.wp_at_succ
theorem Pl.lookM {w : World} {O : Nat → Prop} {k : Nat} {g : Int → Int → Po} {B P : Option Nat} (h : Pl w O k g B P) (m : Int) (hm : U32 m) : ∃ o, (Instr.lookup 65 (.map P) (.int .u32 m) false).run Try.prog w = .ok (.map o) w ∧ ∀ b, o = some b → ∃ f, Mp kvP w b k f := by
  cases P with
  | none => exact ⟨none, get_none okM w m hm, fun b e => by cases e⟩
  | some q =>
    obtain ⟨a, r, H⟩ := h
    have h1 := H.mp.get okM m hm
    cases e : a m with
    | none => rw [e] at h1; exact ⟨none, h1, fun b e => by cases e⟩
    | some o =>
      rw [e] at h1
      obtain ⟨M, e2, _, _, hM, _⟩ := H.yes m o hm e
      refine ⟨o, h1, fun b eb => ⟨r m, ?_⟩⟩
      rw [e2] at eb
      cases eb
      exact hM
theorem keys_any (o : Option Nat) (w : World) : Calls Try.prog 31 #[.map o] w fun e w' => e = .returned (.func (.func 48) #[] #[.pointer (some ⟨w.heap.size, 0, none⟩)]) ∧ w' = w.alloc (.cells #[.map o] 73) := by
  go_enter Try.func31, Try.ntmps31
  go_wp2
  go_ret
  exact ⟨rfl, rfl⟩
theorem collect_any (lb : Array Value) (S : List Int → Prop) (N : Nat) (hN : N ≤ 1000000000000) (w : World) (hseq : SeqGives Fence.wide 1 Try.prog 48 lb ivU S N w) :
    Calls Try.prog 47 #[.func (.func 48) #[] lb] w fun e w' => ∃ (v : Value) (ss : List Int), e = .returned v ∧ S ss ∧ w'.ownsRow w.heap.size 22 1 v ss.length (Sr.ivs ss) ∧ Below w.heap.size w w' := by
  have C := hid (callsIn_wide.1 (ap_seq Fence.wide 2 trivial rfl (by decide) 48 lb trivial (enters_of Try.func48 (by kernel_rfl) rfl) S N hN w hseq))
  clear hseq
  go_enter Try.func47, Try.ntmps47
  go_wp2_with (go_at_call 66; with_reducible refine C.out.mono ?_; rintro e w' ⟨v, ss, rfl, h1, h2, h3⟩; have H1 := hid h1; have H2 := hid h2; have H3 := hid h3; clear h1 h2 h3)
  go_ret
  exact ⟨v, ss, rfl, H1.out, H2.out, H3.out⟩
theorem sorted_any (lb : Array Value) (N : Nat) (hN : N ≤ 1000000000000) (w : World) (hseq : SeqGives Fence.wide 1 Try.prog 48 lb ivU (fun ss => (∀ x ∈ ss, U32 x) ∧ ss.length ≤ N) N w) :
    Calls Try.prog 30 #[.func (.func 48) #[] lb] w fun e w' => ∃ (l : List Int) (q : Option Addr) (d : Nat), e = .returned (.slice q l.length d) ∧ (∀ x ∈ l, U32 x) ∧ l.length ≤ N ∧ Uz w' q l ∧ Below w.heap.size w w' := by
  have C := hid (collect_any lb _ N hN w hseq)
  clear hseq
  go_enter Try.func30, Try.ntmps30
  go_upto_region 2 with (go_at_call 47; with_reducible refine C.out.mono ?_; rintro e w1 ⟨v, ss, rfl, ⟨h1, h4⟩, h2, h3⟩; obtain ⟨q, d, rfl⟩ := own_form h2; have H1 := hid h1; have H2 := hid h2; have H3 := hid h3; have H4 := hid h4; clear h1 h2 h3 h4)
  have CS := hid (sort_own H2.out (by have := H4.out; omega))
  obtain ⟨n, hn⟩ : ∃ n, ss.length = n := ⟨_, rfl⟩
  have HN := hid hn
  rw [hn] at CS ⊢
  clear hn C
  go_wp2_with (go_at_call 29; with_reducible refine CS.out.mono ?_; rintro e w4 ⟨rfl, l', hp, hu, hkk⟩; have HP := hid hp; have HU := hid hu; have HKK := hid hkk; clear hp hu hkk)
  go_ret
  exact ⟨l', q, d, by rw [HP.out.length_eq, HN.out]; rfl, fun x hx => H1.out x (HP.out.mem_iff.1 hx), by rw [HP.out.length_eq]; exact H4.out, HU.out, H3.out.trans (HKK.out.below H3.out.size (fun j hj e => by omega))⟩
theorem instruments_any {w : World} {G : Nat} {O : Nat → Prop} {k : Nat} {s : Ls} (h : Lg w G O k s) (m : Int) (hm : U32 m) (hk : k ≤ 1000000000000) :
    Calls Try.prog 8 #[.pointer (some ⟨G, 0, none⟩), .int .u32 m] w fun e w' => ∃ (l : List Int) (q : Option Addr) (d : Nat), e = .returned (.slice q l.length d) ∧ (∀ x ∈ l, U32 x) ∧ l.length ≤ k ∧ Uz w' q l ∧ Below w.heap.size w w' := by
  obtain ⟨B, P, p, c, h⟩ := h
  obtain ⟨o, l1, l2⟩ := h.pos.lookM m hm
  have a0 := row_cell h.row 5
  unfold lrow at a0
  simp only [List.getElem?_toArray, List.getElem?_cons_succ, List.getElem?_cons_zero] at a0
  obtain ⟨W, hW⟩ : ∃ W, w.alloc (.cells #[.map o] 73) = W := ⟨_, rfl⟩
  have HB := hid (show Below w.heap.size w W from by rw [← hW]; exact ball _ _)
  have hcell : W.cell? ⟨w.heap.size, 0, none⟩ = some (.map o) := by
    have : W.heap[w.heap.size]? = some (.cells #[.map o] 73 (0, 0)) := by rw [← hW]; exact World.alloc_heap_new _ _
    exact row_cell this 0
  obtain ⟨N, hN, hseq⟩ := ky_gives Fence.wide 1 trivial rfl (Nat.le_refl _) w.heap.size k o W (by rw [← hW]; simp) hcell (fun b e => by
    obtain ⟨f, hf⟩ := l2 b e
    exact ⟨f, hf.on HB.out⟩)
  have CS := hid (sorted_any _ N (by omega) W hseq)
  have CK := hid (show Calls Try.prog 31 #[.map o] w fun e w' => e = .returned (.func (.func 48) #[] #[.pointer (some ⟨w.heap.size, 0, none⟩)]) ∧ w' = W from by rw [← hW]; exact keys_any o w)
  have HN := hid hN
  clear hW h hm hcell hseq l2 hN
  go_enter Try.func8, Try.ntmps8
  go_wp2_with (first | (go_at_call 31; with_reducible refine CK.out.mono ?_; rintro e w1 ⟨rfl, h1⟩; subst h1) | (go_at_call 30; with_reducible refine CS.out.mono ?_; rintro e w2 ⟨l, q, d, rfl, h1, h2, h3, h4⟩; have H1 := hid h1; have H2 := hid h2; have H3 := hid h3; have H4 := hid h4; clear h1 h2 h3 h4))
  go_ret
  exact ⟨l, q, d, rfl, H1.out, by have := H2.out; have := HN.out; omega, H3.out, btr HB.out H4.out⟩
end Go.Proofs.Ytclfkmhglcfcnaa.Ac
namespace Go.Proofs.Ytclfkmhglcfcnaa.Ac
open Go.RowKit Go.Deep Go.Maps Go.Proofs.Ytclfkmhglcfcnaa.MonM
set_option linter.unusedVariables false
set_option linter.unusedSimpArgs false
set_option maxHeartbeats 8000000
set_option maxRecDepth 100000
attribute [local go_sem ↓] Go.wp_at_zero Go.wp_at_succ
theorem sum_any (m n : Int) (w : World) (hm : Amt m) (hn : Amt n) : Calls Try.prog 11 #[mv m, mv n] w fun e w' => e = .returned (mv (maddV m n)) ∧ Below w.heap.size w w' := by
  obtain ⟨Wa, hWa⟩ : ∃ W, w.alloc (.cells (mc m) 38) = W := ⟨_, rfl⟩
  obtain ⟨Wb, hWb⟩ : ∃ W, Wa.alloc (.cells (mc n) 38) = W := ⟨_, rfl⟩
  obtain ⟨Wc, hWc⟩ : ∃ W, Wb.alloc (.cells #[.int .u64 0, .int .u64 0] 38) = W := ⟨_, rfl⟩
  obtain ⟨R, hR⟩ : ∃ R, w.heap.size = R := ⟨_, rfl⟩
  have sa : Wa.heap.size = R + 1 := by rw [← hWa, ← hR]; exact Array.size_push _
  have sb : Wb.heap.size = R + 1 + 1 := by rw [← hWb]; exact (Array.size_push _).trans (by rw [sa])
  have ba : Below w.heap.size w Wa := by rw [← hWa]; exact ball _ _
  have bb : Below Wa.heap.size Wa Wb := by rw [← hWb]; exact ball _ _
  have bc : Below Wb.heap.size Wb Wc := by rw [← hWc]; exact ball _ _
  have ra : Wc.heap[R]? = some (.cells (mc m) 38 (0, 0)) := row_on (row_on (by rw [← hWa, ← hR]; exact World.alloc_heap_new _ _) bb) bc
  have rb : Wc.heap[R + 1]? = some (.cells (mc n) 38 (0, 0)) := row_on (by rw [← hWb, ← sa]; exact World.alloc_heap_new _ _) bc
  have rc : Wc.heap[R + 1 + 1]? = some (.cells #[.int .u64 0, .int .u64 0] 38 (0, 0)) := by rw [← hWc, ← sb]; exact World.alloc_heap_new _ _
  have HBC := hid (btr (btr ba bb) bc)
  have HA := hid (fun U => madd_any m n U hm hn)
  have HRC := hid rc
  have a0 := row_cell ra 0
  have a1 := row_cell ra 1
  have b0 := row_cell rb 0
  have b1 := row_cell rb 1
  unfold mc at hWa hWb a0 a1 b0 b1
  simp only [List.getElem?_toArray, List.getElem?_cons_succ, List.getElem?_cons_zero] at a0 a1 b0 b1
  have HWa := hid hWa
  have HWb := hid hWb
  have HWc := hid hWc
  have HR := hid hR
  have SA := hid sa
  have SB := hid sb
  have HV := hid (show ∀ x, mv x = .agg #[.int .u64 (hiW x), .int .u64 (loW x)] from fun x => rfl)
  unfold mv at HA ⊢
  obtain ⟨v, hv⟩ : ∃ v, maddV m n = v := ⟨_, rfl⟩
  obtain ⟨ee, hee⟩ : ∃ v, maddE m n = v := ⟨_, rfl⟩
  rw [hv, hee] at HA
  rw [hv]
  clear hWa hWb hWc ra rb rc ba bb bc hm hn hR sa sb hv hee
  go_enter Try.func11, Try.ntmps11
  go_upto_region 1 with fail
  rw [HWa.out, HWb.out, HWc.out, HR.out]
  clear HWa HWb HWc SA SB
  go_upto_region 2 with (first | (go_at_call 33; with_reducible refine (HA.out _).mono ?_; rintro e w4 ⟨rfl, hb⟩; have HB4 := hid hb; have HZ4 := hid (World.alloc_heap_new w4 (.cells #[.int .u64 0, .int .u64 0] 38)); clear hb) | (refine wpList_store_row (by rfl) 38 (.tmp 5) (.tmp 11) (by rfl) w4.heap.size #[.int .u64 (hiW v), .int .u64 (loW v)] (by rfl) (by rfl) 38 _ HZ4.out infoM (by rfl) (by simp [Value.oneCell']) ?_))
  obtain ⟨X, hX⟩ : ∃ X, (w4.alloc (.cells #[.int .u64 0, .int .u64 0] 38)).setRow w4.heap.size #[.int .u64 (hiW v), .int .u64 (loW v)] = X := ⟨_, rfl⟩
  have GX := hid (show X.heap[w4.heap.size]? = some (.cells #[.int .u64 (hiW v), .int .u64 (loW v)] 38 (0, 0)) from by rw [← hX]; exact setRow_heap _ _ _ _ 38 (0, 0) HZ4.out)
  have BX := hid (show Below w4.heap.size w4 X from by rw [← hX]; exact setRow_below (ball _ _) (Nat.le_refl _))
  rw [hX]
  clear hX HZ4 a0 a1 b0 b1
  have c0 := row_cell GX.out 0
  have c1 := row_cell GX.out 1
  simp only [List.getElem?_toArray, List.getElem?_cons_succ, List.getElem?_cons_zero] at c0 c1
  have HRX := hid (row_on (row_on HRC.out HB4.out) BX.out)
  go_wp2_with (refine wpList_store_row (by rfl) 38 (.tmp 4) (.tmp 13) (by rfl) (R + 1 + 1) #[.int .u64 (hiW v), .int .u64 (loW v)] (by rfl) (by rfl) 38 _ HRX.out infoM (by rfl) (by simp [Value.oneCell']) ?_)
  refine bodyPost_ret (results_cell_row (fn := Try.f11) Try.results11 _ _ (R + 1 + 1) 38 #[.int .u64 (hiW v), .int .u64 (loW v)] (0, 0) _ (by rfl) (setRow_heap _ _ _ _ 38 (0, 0) HRX.out) Try.underlying38 rfl infoM) rfl ⟨rfl, ?_⟩
  exact setRow_below (btr (btr HBC.out HB4.out) BX.out) (by have := HR.out; omega)
def Fs (v : Value) (b : Nat) : Prop := v.ownBlock = some b
theorem fs_none (b : Nat) : ¬ Fs (.slice none 0 0) b := fun h => by cases h
theorem fs_some {g n c b : Nat} (h : Fs (.slice (some ⟨g, 0, none⟩) n c) b) : b = g := by cases h; rfl
/-- a ledger, and blocks that are not its own. -/
def Nf (w W : World) (F : Nat → Prop) (G k : Nat) (s : Ls) : Prop := ∃ O, Lg W G O k s ∧ Below w.heap.size w W ∧ (∀ b, O b → w.heap.size ≤ b) ∧ ∀ b, F b → w.heap.size ≤ b ∧ b < W.heap.size ∧ ¬ O b
theorem Nf.nl {w W : World} {F : Nat → Prop} {G k : Nat} {s : Ls} (h : Nf w W F G k s) : Nl w W G k s := by
  obtain ⟨O, a, b, c, _⟩ := h
  exact ⟨O, a, b, c⟩
theorem Nf.below {w W : World} {F : Nat → Prop} {G k : Nat} {s : Ls} (h : Nf w W F G k s) : Below w.heap.size w W := by
  obtain ⟨O, a, b, c, _⟩ := h
  exact b
theorem nl_nf {w W : World} {F : Nat → Prop} {G k : Nat} {s : Ls} (h : Nl w W G k s) (hF : ∀ b, ¬ F b) : Nf w W F G k s := by
  obtain ⟨O, a, b, c⟩ := h
  exact ⟨O, a, b, c, fun b hb => absurd hb (hF b)⟩
theorem Nf.grow {w W U : World} {F F' : Nat → Prop} {G k : Nat} {s : Ls} (h : Nf w W F G k s) (hk : Kp F W U) (hF : ∀ b, F' b → F b ∨ W.heap.size ≤ b) (hU : ∀ b, F' b → b < U.heap.size) : Nf w U F' G k s := by
  obtain ⟨O, a, b, c, d⟩ := h
  refine ⟨O, a.kept hk (fun j hj hf => (d j hf).2.2 hj), b.trans (hk.below b.size (fun j hj e => by have := (d j e).1; omega)), c, fun j hj => ?_⟩
  rcases hF j hj with h1 | h1
  · obtain ⟨x1, x2, x3⟩ := d j h1
    exact ⟨x1, hU j hj, x3⟩
  · refine ⟨Nat.le_trans b.size h1, hU j hj, fun h2 => ?_⟩
    have := a.lt j h2
    omega
theorem Nf.on {w W U : World} {F : Nat → Prop} {G k : Nat} {s : Ls} (h : Nf w W F G k s) (hb : Below W.heap.size W U) : Nf w U F G k s := by
  obtain ⟨O, a, b, c, d⟩ := h
  exact ⟨O, a.on hb, btr b hb, c, fun j hj => ⟨(d j hj).1, Nat.lt_of_lt_of_le (d j hj).2.1 hb.size, (d j hj).2.2⟩⟩
theorem Nf.mono {w W : World} {F : Nat → Prop} {G k k' : Nat} {s : Ls} (h : Nf w W F G k s) (hk : k ≤ k') : Nf w W F G k' s := by
  obtain ⟨O, a, b, c, d⟩ := h
  exact ⟨O, a.mono hk, b, c, d⟩
theorem nf_book {w W : World} {F : Nat → Prop} {G k : Nat} {s : Ls} (h : Nf w W F G k s) (d : De) (hd : DeOk d) (hk : k + 13 ≤ 1000000000000) :
    Calls Try.prog 6 #[.pointer (some ⟨G, 0, none⟩), .agg d.row] W fun e w' => ∃ r s', e = .returned (.int .i64 r) ∧ Nf w w' F G (k + 13) s' ∧ (∀ b, F b → w'.heap[b]? = W.heap[b]?) ∧ (r ≠ 0 ∧ s' = s ∨ r = 0 ∧ Bkd s d s') := by
  obtain ⟨O, a, b, c, f⟩ := h
  refine (book_any a d hd hk).mono ?_
  rintro e w' ⟨r, s', O', rfl, h1, h2, h3, h4⟩
  refine ⟨r, s', rfl, ⟨O', h1, b.trans (h2.below b.size (fun j hj e => by have := c j e; omega)), fun j hj => ?_, fun j hj => ?_⟩, fun j hj => h2.obj j (f j hj).2.1 (f j hj).2.2, ?_⟩
  · rcases h3 j hj with h5 | h5
    · exact c j h5
    · exact Nat.le_trans b.size h5
  · obtain ⟨x1, x2, x3⟩ := f j hj
    refine ⟨x1, Nat.lt_of_lt_of_le x2 h2.size, fun h5 => ?_⟩
    rcases h3 j h5 with h6 | h6
    · exact x3 h6
    · omega
  · rcases h4 with ⟨h5, h6, _⟩ | h5
    · exact .inl ⟨h5, h6⟩
    · exact .inr h5
/-- deals in a slice. -/
def den (l : List De) : List Value := l.flatMap (fun d => d.row.toList)
theorem den_snoc (l : List De) (d : De) : den (l ++ [d]) = den l ++ d.row.toList := by simp [den]
theorem den_get {l : List De} {i : Nat} (h : i < l.length) {j : Nat} (hj : j < 6) : (den l)[i * 6 + j]? = (l[i].row)[j]? := by
  induction l generalizing i with
  | nil => cases h
  | cons x l ih =>
    have e : den (x :: l) = x.row.toList ++ den l := by simp [den]
    have hl : x.row.toList.length = 6 := rfl
    rw [e]
    cases i with
    | zero => rw [List.getElem?_append_left (by rw [hl]; omega)]; simp
    | succ i =>
      rw [List.getElem?_append_right (by rw [hl]; omega), hl, show (i + 1) * 6 + j - 6 = i * 6 + j by omega, ih (by simpa using h)]
      rfl
/-- deals that may be read. -/
def Dr (w : World) (q : Option Addr) (l : List De) : Prop := ∀ i (h : i < l.length), ∃ b off, q = some ⟨b, off, none⟩ ∧ ∀ U, Below w.heap.size w U → U.cell? ⟨b, off + i * 6, none⟩ = some (.int .u32 l[i].it) ∧ U.cell? ⟨b, off + i * 6 + 1, none⟩ = some (.int .u32 l[i].bu) ∧ U.cell? ⟨b, off + i * 6 + 2, none⟩ = some (.int .u32 l[i].se) ∧ U.cell? ⟨b, off + i * 6 + 4, none⟩ = some (.int .i64 l[i].pr) ∧ U.cell? ⟨b, off + i * 6 + 5, none⟩ = some (.int .u64 l[i].qt)
theorem dr_own {base : Nat} {w : World} {q : Option Addr} {n c : Nat} {l : List De} (hn : l.length = n) (h : w.ownsRow base 34 6 (.slice q n c) n (den l)) : Dr w q l := by
  intro i hi
  obtain ⟨h1, ⟨e', e2⟩ | ⟨g, c', cur, e', r1, r2, r3, r4, r5, r6⟩⟩ := id h
  · omega
  · obtain ⟨rfl, _, rfl⟩ := Value.slice.inj e'
    refine ⟨g, 0, rfl, fun U hU => ?_⟩
    have hc := (own_cells (own_on h hU)).2
    have key : ∀ j, j < 6 → ∀ u, (l[i].row)[j]? = some u → U.cell? ⟨g, i * 6 + j, none⟩ = some u := fun j hj u hu => by
      have := hc (i * 6 + j) u (by rw [den_get hi hj]; exact hu)
      rw [Addr.add_lit, Nat.zero_add] at this
      exact this
    simp only [Nat.zero_add]
    exact ⟨key 0 (by decide) _ rfl, key 1 (by decide) _ rfl, key 2 (by decide) _ rfl, key 4 (by decide) _ rfl, key 5 (by decide) _ rfl⟩
theorem infoD6 : (Try.prog.info? 34).map (fun i => (i.zero, i.size, i.bytes)) = some (some (.agg #[.int .u32 0, .int .u32 0, .int .u32 0, .int .i64 0, .int .i64 0, .int .u64 0]), 6, 40) := by kernel_rfl
theorem app_de {w : World} {ops : Array Oper} {rest : List Oper} {oo : Oper} {a : Act} {Q : Exit → Act → World → Prop} (hgd : oo.guard = none) (s x : Operand)
    (ho : oo.op = .call { callee := .builtin .append, args := #[s, x], argTypes := #[26, 26] })
    (base : Nat) (v : Value) (n : Nat) (ys : List Value) (hs : a.eval s = v) (hown : w.ownsRow base 34 6 v n ys)
    (g : Nat) (z : De) (hx : a.eval x = .slice (some ⟨g, 0, none⟩) 1 1) (hg : w.heap[g]? = some (.cells z.row 34 (0, 0)))
    (hn : n ≤ 1000000000000) (hbase : base ≤ w.heap.size)
    (h : ∀ g' c' w', w'.ownsRow base 34 6 (.slice (some ⟨g', 0, none⟩) (n + 1) c') (n + 1) (ys ++ z.row.toList) → w.grownBy w' v.ownBlock → (v.ownBlock = some g' ∨ g' = w.heap.size) → g' < w'.heap.size → wpList Try.prog ops Q rest (a.put oo.dst (.slice (some ⟨g', 0, none⟩) (n + 1) c')) w') : wpList Try.prog ops Q (oo :: rest) a w := by
  obtain ⟨i0, hi, hz0, hz1, hz2⟩ := info_parts infoD6
  exact wpList_append_lies _ hgd s x 26 ho base 34 i0 _ 6 40 Try.underlying26 hi hz0 hz1 hz2 rfl (by decide) v n ys hs hown ⟨g, 0, none⟩ 1 1 z.row.toList hx rfl (fun j u hj => by
    rw [Addr.add_lit, Nat.zero_add, row_cell hg]
    simpa using hj) (fun u hu => by unfold De.row at hu; simp at hu; rcases hu with rfl | rfl | rfl | rfl | rfl | rfl <;> rfl) (by decide) (by unfold maxLen; omega) (by omega) hbase _ rfl h
theorem cmp_self (v : Int) : cmp3 v v = 0 := by unfold cmp3; rw [if_neg (by omega), if_neg (by omega)]
theorem take_snoc {α : Type} {l : List α} {i : Nat} (h : i < l.length) : l.take (i + 1) = l.take i ++ [l[i]] := by
  rw [List.take_add_one, List.getElem?_eq_getElem h]
  rfl
theorem uz_at2 {w : World} {q : Option Addr} {l : List Int} (h : Uz w q l) {i : Nat} (hi : i < l.length) : ∃ b off, q = some ⟨b, off, none⟩ ∧ ∀ U, Below w.heap.size w U → U.cell? ⟨b, off + i, none⟩ = some (.int .u32 l[i]) := by
  obtain ⟨b, off, e, hb, hc⟩ := h i hi
  exact ⟨b, off, e, fun U hU => by rw [hU.cell (p := ⟨b, off + i, none⟩) hb]; exact hc⟩
theorem nl_down {w U W : World} {G k : Nat} {s : Ls} (hb : Below w.heap.size w U) (h : Nl U W G k s) : Nl w W G k s := by
  obtain ⟨O, a1, a2, a3⟩ := h
  exact ⟨O, a1, btr hb a2, fun b hb' => Nat.le_trans hb.size (a3 b hb')⟩
theorem Nw.fw {s : Ls} {ma ta bb : Int} (h : Nw s ma ta bb) : Fw s [] := Fw.nil (fun m i => by rw [h.g]; rfl)
end Go.Proofs.Ytclfkmhglcfcnaa.Ac
