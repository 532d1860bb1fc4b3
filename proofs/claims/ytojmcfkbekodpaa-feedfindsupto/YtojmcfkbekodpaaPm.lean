/-
  Levels of one's own; copies.
-/
import Derived.Test.YtojmcfkbekodpaaPl
namespace Go.Proofs.Ytojmcfkbekodpaa.Fd
open Go.RowKit Go.Deep
set_option linter.unusedVariables false
set_option linter.unusedSimpArgs false
set_option maxHeartbeats 2000000
set_option maxRecDepth 100000
theorem grown_refl (w : World) (r : Option Nat) : w.grownBy w r := ⟨rfl, rfl, rfl, Nat.le_refl _, fun _ _ _ => rfl⟩
theorem own_form {base : Nat} {w : World} {e : TypeId} {size n : Nat} {v : Value} {xs : List Value} (h : w.ownsRow base e size v n xs) : ∃ p c, v = .slice p n c := by
  obtain ⟨_, ⟨rfl, rfl⟩ | ⟨g, c, cur, rfl, _⟩⟩ := h
  · exact ⟨none, 0, rfl⟩
  · exact ⟨_, _, rfl⟩
theorem own_nil (w : World) (base : Nat) (e : TypeId) (size : Nat) : w.ownsRow base e size (.slice none 0 0) 0 [] := ⟨by simp, .inl ⟨rfl, rfl⟩⟩
theorem made0 {w : World} (U : World) (t : TypeId) (size : Nat) (h : w.heap.size ≤ U.heap.size) : (U.alloc (.cells #[] t)).ownsRow w.heap.size t size (.slice (some ⟨U.heap.size, 0, none⟩) 0 0) 0 [] := World.ownsRow_made U #[] 0 h (by unfold maxLen; omega) (by simp)
theorem own_cells {base : Nat} {w : World} {e : TypeId} {size n c : Nat} {ad : Addr} {xs : List Value} (h : w.ownsRow base e size (.slice (some ad) n c) n xs) : xs.length = n * size ∧ ∀ j u, xs[j]? = some u → w.cell? (ad.add j) = some u := by
  obtain ⟨h1, ⟨e', e2⟩ | ⟨g, c', cur, e', r1, r2, r3, r4, r5, r6⟩⟩ := h
  · cases (Value.slice.inj e').1
  · obtain ⟨e3, _, rfl⟩ := Value.slice.inj e'
    injection e3 with e3
    subst e3
    refine ⟨h1, fun j u hj => ?_⟩
    rw [Addr.add_lit, Nat.zero_add, row_cell r2]
    have hl := (List.getElem?_eq_some_iff.1 hj).1
    have := congrArg (fun z => z[j]?) r6
    simp only [List.getElem?_take, show j < n * size by omega, if_true, Array.getElem?_toList] at this
    rw [this, hj]
theorem own_cap {base : Nat} {w : World} {e : TypeId} {size n c : Nat} {p : Option Addr} {xs : List Value} (h : w.ownsRow base e size (.slice p n c) n xs) : n ≤ c ∧ c ≤ maxLen ∧ (p = none → n = 0 ∧ c = 0) := by
  obtain ⟨h1, ⟨e', e2⟩ | ⟨g, c', cur, e', r1, r2, r3, r4, r5, r6⟩⟩ := h
  · obtain ⟨_, h2, rfl⟩ := Value.slice.inj e'
    exact ⟨by omega, Nat.zero_le _, fun _ => ⟨by omega, rfl⟩⟩
  · obtain ⟨rfl, _, rfl⟩ := Value.slice.inj e'
    exact ⟨r3, r4, fun h => by cases h⟩
theorem info_parts {e : TypeId} {z : Value} {size bytes : Nat} (h : (Try.prog.info? e).map (fun i => (i.zero, i.size, i.bytes)) = some (some z, size, bytes)) : ∃ i0, Try.prog.info? e = some i0 ∧ i0.zero = some z ∧ i0.size = size ∧ i0.bytes = bytes := by
  cases hq : Try.prog.info? e with
  | none => rw [hq] at h; cases h
  | some i =>
    rw [hq] at h
    simp only [Option.map_some, Option.some.injEq, Prod.mk.injEq] at h
    exact ⟨i, rfl, h.1, h.2.1, h.2.2⟩
theorem infoL3 : (Try.prog.info? 71).map (fun i => (i.zero, i.size, i.bytes)) = some (some (.agg #[.int .i64 0, .int .u64 0, .int .i64 0]), 3, 24) := by kernel_rfl
theorem infoD6 : (Try.prog.info? 47).map (fun i => (i.zero, i.size, i.bytes)) = some (some (.agg #[.int .u64 0, .int .i64 0, .int .i64 0, .int .i64 0, .int .u64 0, .int .i64 0]), 6, 48) := by kernel_rfl
/-- rows that may be read are put behind a slice of one's own. -/
theorem wpList_app_rd {w : World} {ops : Array Oper} {rest : List Oper} {oo : Oper} {a : Act} {Q : Exit → Act → World → Prop} (hgd : oo.guard = none) (s x : Operand) (t e : TypeId) (z : Value) (size bytes : Nat)
    (ho : oo.op = .call { callee := .builtin .append, args := #[s, x], argTypes := #[t, t] }) (ht : Try.prog.underlying t = some (.slice e)) (hinf : (Try.prog.info? e).map (fun i => (i.zero, i.size, i.bytes)) = some (some z, size, bytes)) (hzs : z.cells.size = size) (hsz : 0 < size)
    (base : Nat) (v : Value) (n : Nat) (ys : List Value) (hs : a.eval s = v) (hown : w.ownsRow base e size v n ys)
    (q : Option Addr) (c m : Nat) (xs : List Value) (hx : a.eval x = .slice q m c) (hq : q = none → m = 0 ∧ c = 0) (hln : xs.length = m * size) (hrd : ∀ ad, q = some ad → ∀ j u, xs[j]? = some u → w.cell? (ad.add j) = some u) (h1 : ∀ u ∈ xs, u.oneCell' = true)
    (h63 : n + m ≤ maxLen) (hbytes : (n + m) * bytes ≤ 140737488355328) (hbase : base ≤ w.heap.size)
    (h : ∀ v' w', w'.ownsRow base e size v' (n + m) (ys ++ xs) → w.grownBy w' v.ownBlock → wpList Try.prog ops Q rest (a.put oo.dst v') w') : wpList Try.prog ops Q (oo :: rest) a w := by
  obtain ⟨i0, hi, hz0, hz1, hz2⟩ := info_parts hinf
  cases q with
  | none =>
    obtain ⟨rfl, rfl⟩ := hq rfl
    obtain rfl : xs = [] := List.length_eq_zero_iff.1 (by simpa using hln)
    exact wpList_append_own_none hgd s x t ho base e i0 size ht hi v n ys hs hown hx (h v w (by simpa using hown) (grown_refl _ _))
  | some ad =>
    exact wpList_append_own _ hgd s x t ho base e i0 _ size bytes ht hi hz0 hz1 hz2 hzs hsz v n ys hs hown ad m c xs hx hln (hrd ad rfl) h1 h63 hbytes hbase (fun v' w' h2 h3 _ => h v' w' h2 h3)
/-- levels in a slice of one's own. -/
def Lo (b : Nat) (w : World) (p : Option Addr) (c : Nat) (l : List Lv) : Prop := w.ownsRow b 71 3 (.slice p l.length c) l.length (lvc l)
theorem Lo.rl {b : Nat} {w : World} {p : Option Addr} {c : Nat} {l : List Lv} (h : Lo b w p c l) : Rl w p c l := by
  obtain ⟨h1, h2, h3⟩ := own_cap h
  refine ⟨fun e => ⟨List.length_eq_zero_iff.1 (h3 e).1, (h3 e).2⟩, h1, h2, fun ad e => ?_⟩
  subst e
  exact (own_cells h).2
theorem Lo.on {b : Nat} {w w' : World} {p : Option Addr} {c : Nat} {l : List Lv} (h : Lo b w p c l) (hb : Below w.heap.size w w') : Lo b w' p c l := own_on h hb
theorem Lo.base {b b' : Nat} {w : World} {p : Option Addr} {c : Nat} {l : List Lv} (h : Lo b w p c l) (hb : b' ≤ b) : Lo b' w p c l := own_base h hb
theorem Lo.nil0 (b : Nat) (w : World) : Lo b w none 0 [] := own_nil w b _ _
theorem below_grown {base : Nat} {w W U : World} {v : Value} {e : TypeId} {size n : Nat} {xs : List Value} (hb : Below w.heap.size w W) (hv : W.ownsRow w.heap.size e size v n xs) (hg : W.grownBy U v.ownBlock) : Below w.heap.size w U :=
  hb.grown hg hb.size (fun j hj => by
    obtain ⟨_, ⟨e, _⟩ | ⟨g, c, cur, e, r1, _⟩⟩ := hv
    · rw [e] at hj; cases hj
    · rw [e] at hj; cases hj; exact r1)
theorem copiedLevels_any (p : Option Addr) (c : Nat) (l : List Lv) (w : World) (h : Rl w p c l) (hl : l.length * 24 ≤ 140737488355328) :
    Calls Try.prog 58 #[.slice p l.length c] w fun e w' => ∃ p' c', e = .returned (.slice p' l.length c') ∧ Lo w.heap.size w' p' c' l ∧ Below w.heap.size w w' := by
  have HL := hid h
  have HX := hid (lvc_len l)
  have hcap := h.cap
  have hmax := h.max
  have HO := hid (own_nil w w.heap.size 71 3)
  obtain ⟨n, hn⟩ : ∃ n, l.length = n := ⟨_, rfl⟩
  have HN := hid hn
  have HQ := hid (show p = none → n = 0 ∧ c = 0 from fun e => by have := h.nil e; rw [← hn, this.1]; exact ⟨rfl, this.2⟩)
  rw [hn] at hl hcap HX ⊢
  clear h hn
  go_enter Try.func58, Try.ntmps58
  go_wp2_with (at_builtin; refine wpList_app_rd (by rfl) (.const (.slice none 0 0)) (.tmp 3) 42 71 _ 3 24 (by rfl) Try.underlying42 infoL3 rfl (by decide) w.heap.size _ 0 [] (by rfl) HO.out p c n (lvc l) (by rfl) HQ.out HX.out HL.out.get (lvc_one l) (by omega) (by omega) (Nat.le_refl _) ?_; intro v' w' hown hgrow; obtain ⟨p1, q1, rfl⟩ := own_form hown; have HO1 := hid hown; have HG1 := hid hgrow; clear hown hgrow)
  go_ret
  have hO := HO1.out
  simp only [Nat.zero_add, List.nil_append] at hO ⊢
  refine ⟨p1, q1, by simp, ?_, below_grown (base := 0) (Below.refl _ _) HO.out HG1.out⟩
  unfold Lo; rw [HN.out]; exact hO
end Go.Proofs.Ytojmcfkbekodpaa.Fd
namespace Go.Proofs.Ytojmcfkbekodpaa.Fd
open Go.RowKit Go.Deep
set_option linter.unusedVariables false
set_option linter.unusedSimpArgs false
set_option maxHeartbeats 2000000
set_option maxRecDepth 100000
theorem Rl.take {w : World} {p : Option Addr} {c : Nat} {l : List Lv} (h : Rl w p c l) (m : Nat) : Rl w p c (l.take m) := by
  refine ⟨fun e => by rw [(h.nil e).1]; exact ⟨by simp, (h.nil e).2⟩, ?_, h.max, fun ad e j u hj => h.get ad e j u ?_⟩
  · have := h.cap; simp; omega
  · rw [lvc_take, List.getElem?_take] at hj
    split at hj
    · exact hj
    · cases hj
theorem row4 {w : World} {g : Nat} {t : TypeId} {a0 a1 a2 a3 : Value} (h : w.heap[g]? = some (.cells #[a0, a1, a2, a3] t (0, 0))) : w.cell? ⟨g, 0, none⟩ = some a0 ∧ w.cell? ⟨g, 1, none⟩ = some a1 ∧ w.cell? ⟨g, 2, none⟩ = some a2 ∧ w.cell? ⟨g, 3, none⟩ = some a3 :=
  ⟨row_cell h 0, row_cell h 1, row_cell h 2, row_cell h 3⟩
theorem row3 {w : World} {g : Nat} {t : TypeId} {a0 a1 a2 : Value} (h : w.heap[g]? = some (.cells #[a0, a1, a2] t (0, 0))) : w.cell? ⟨g, 0, none⟩ = some a0 ∧ w.cell? ⟨g, 1, none⟩ = some a1 ∧ w.cell? ⟨g, 2, none⟩ = some a2 :=
  ⟨row_cell h 0, row_cell h 1, row_cell h 2⟩
theorem first_any (B d : Nat) (sq : Int) (v1 v2 : Value) (p : Option Addr) (c : Nat) (l : List Lv) (w : World) (hB : w.heap[B]? = some (.cells #[.int .i64 d, .int .u64 sq, v1, v2] 73 (0, 0))) (h : Rl w p c l) (hd : d ≤ 64) :
    Calls Try.prog 32 #[.pointer (some ⟨B, 0, none⟩), .slice p l.length c] w fun e w' => ∃ p' c', e = .returned (.slice p' (l.take d).length c') ∧ Lo w.heap.size w' p' c' (l.take d) ∧ Below w.heap.size w w' := by
  have C := hid (copiedLevels_any p c (l.take d) w (h.take d) (by simp; omega))
  have hl : (l.take d).length = min d l.length := by simp
  obtain ⟨k0, _, _, _⟩ := row4 hB
  have hcap := h.cap
  have hmax := h.max
  unfold maxLen at hmax
  cases p with
  | none =>
    obtain ⟨rfl, rfl⟩ := h.nil rfl
    simp only [List.take_nil, List.length_nil] at C ⊢
    have hz : min (d : Int) 0 = 0 := by omega
    clear h hB hl
    go_enter Try.func32, Try.ntmps32
    go_wp2_with (go_at_call 58; with_reducible refine (C.out).mono ?_; rintro e w1 ⟨p', c', rfl, h1, h2⟩; have H1 := hid h1; have H2 := hid h2; clear h1 h2)
    go_ret
    exact ⟨p', c', by simp, H1.out, H2.out⟩
  | some ad =>
    obtain ⟨n, hn⟩ : ∃ n, l.length = n := ⟨_, rfl⟩
    obtain ⟨m, hm⟩ : ∃ m, min d n = m := ⟨_, rfl⟩
    rw [hl, hn, hm] at C
    rw [hl, hn, hm]
    have hmi : min (d : Int) (n : Int) = (m : Int) := by omega
    have m0 : (0 : Int) ≤ (m : Int) := by omega
    have m1 : (m : Int) ≤ (c : Int) := by omega
    have m2 : m ≤ c := by omega
    have HM := hid hm
    clear h hB hl hm
    rw [hn] at hcap
    clear hn
    go_enter Try.func32, Try.ntmps32
    go_wp2_with (go_at_call 58; with_reducible refine (C.out).mono ?_; rintro e w1 ⟨p', c', rfl, h1, h2⟩; have H1 := hid h1; have H2 := hid h2; clear h1 h2)
    go_ret
    exact ⟨p', c', by simp, H1.out, H2.out⟩
end Go.Proofs.Ytojmcfkbekodpaa.Fd
namespace Go.Proofs.Ytojmcfkbekodpaa.Fd
open Go.RowKit Go.Deep
set_option linter.unusedVariables false
set_option linter.unusedSimpArgs false
set_option maxHeartbeats 2000000
set_option maxRecDepth 100000
theorem infoP : (Try.prog.info? 49).map (·.size) = some 3 := by kernel_rfl
theorem set_row {w : World} {B k : Nat} {row : Array Value} {t : TypeId} (v : Value) (h : w.heap[B]? = some (.cells row t (0, 0))) : (w.setCell ⟨B, k, none⟩ v).heap[B]? = some (.cells (row.setIfInBounds k v) t (0, 0)) := heap_setCell_same w B k row t v h
theorem set_oth {w : World} {B k g : Nat} {o : Option Obj} (v : Value) (h : w.heap[g]? = o) (hg : g ≠ B) : (w.setCell ⟨B, k, none⟩ v).heap[g]? = o := by rw [heap_setCell_other _ _ _ _ hg]; exact h
theorem set_below {w W : World} {g k : Nat} {v : Value} (h : Below w.heap.size w W) (hg : w.heap.size ≤ g) : Below w.heap.size w (W.setCell ⟨g, k, none⟩ v) := h.trans ((Kp.set W g k v).below h.size (fun b hb e => by omega))
theorem Lo.set {b : Nat} {w : World} {p : Option Addr} {c : Nat} {l : List Lv} (h : Lo b w p c l) {g k : Nat} {v : Value} (hg : g < b) : Lo b (w.setCell ⟨g, k, none⟩ v) p c l :=
  own_same h (fun j hj => heap_setCell_other _ _ _ _ (by
    have := own_geP (g := j) h (by
      obtain ⟨_, ⟨e, _⟩ | ⟨g', c', cur, e, _⟩⟩ := h
      · rw [e] at hj; cases hj
      · have e5 := (Value.slice.inj e).1
        rw [e] at hj; cases hj
        exact e5)
    show j ≠ g; omega))
theorem Lo.setRow {b : Nat} {w : World} {p : Option Addr} {c : Nat} {l : List Lv} (h : Lo b w p c l) {g : Nat} {cs : Array Value} (hg : g < b) : Lo b (w.setRow g cs) p c l :=
  own_same h (fun j hj => setRow_other _ _ _ _ (by
    have := own_geP (g := j) h (by
      obtain ⟨_, ⟨e, _⟩ | ⟨g', c', cur, e, _⟩⟩ := h
      · rw [e] at hj; cases hj
      · have e5 := (Value.slice.inj e).1
        rw [e] at hj; cases hj
        exact e5)
    show j ≠ g; omega))
theorem Lo.ge {b : Nat} {w : World} {p : Option Addr} {c : Nat} {l : List Lv} (h : Lo b w p c l) {g : Nat} (hg : OfP p g) : b ≤ g ∧ g < w.heap.size := by
  refine ⟨own_geP h hg, ?_⟩
  subst hg
  obtain ⟨cur, e⟩ := own_ty h rfl
  exact row_lt e
theorem copied_any (sq : Int) (p1 p2 : Option Addr) (c1 c2 : Nat) (l1 l2 : List Lv) (w : World) (h1 : Rl w p1 c1 l1) (h2 : Rl w p2 c2 l2) (b1 : l1.length * 24 ≤ 140737488355328) (b2 : l2.length * 24 ≤ 140737488355328) :
    Calls Try.prog 38 #[.agg #[.int .u64 sq, .slice p1 l1.length c1, .slice p2 l2.length c2]] w fun e w' => ∃ q1 d1 q2 d2, e = .returned (.agg #[.int .u64 sq, .slice q1 l1.length d1, .slice q2 l2.length d2]) ∧ Lo w.heap.size w' q1 d1 l1 ∧ Lo w.heap.size w' q2 d2 l2 ∧ (∀ g, OfP q1 g → ¬ OfP q2 g) ∧ Below w.heap.size w w' := by
  obtain ⟨R, hR⟩ : ∃ R, w.heap.size = R := ⟨_, rfl⟩
  obtain ⟨n1, hn1⟩ : ∃ n, l1.length = n := ⟨_, rfl⟩
  obtain ⟨n2, hn2⟩ : ∃ n, l2.length = n := ⟨_, rfl⟩
  obtain ⟨W, hW⟩ : ∃ W, (w.alloc (.cells #[.int .u64 sq, .slice p1 n1 c1, .slice p2 n2 c2] 49)).alloc (.cells #[.int .u64 0, .slice none 0 0, .slice none 0 0] 49) = W := ⟨_, rfl⟩
  obtain ⟨hb0, x0, x1, hsz⟩ := alloc2 hR hW
  have HB := hid hb0
  have HP := hid (x0 _ _ rfl)
  have HZ := hid (x1 _ _ rfl)
  have HS := hid hsz
  have HW := hid hW
  have HR := hid hR
  have C1 := hid (copiedLevels_any p1 c1 l1 W (h1.on hb0) b1)
  have C2 := hid (fun (U : World) (hU : Below w.heap.size w U) => copiedLevels_any p2 c2 l2 U (h2.on hU) b2)
  rw [hn1] at C1
  rw [hn2] at C2
  rw [hn1, hn2]
  have HN1 := hid hn1
  have HN2 := hid hn2
  clear h1 h2 b1 b2 hb0 x0 x1 hsz hW hR hn1 hn2
  go_enter Try.func38, Try.ntmps38
  go_upto_region 1 with fail
  rw [HW.out, HR.out]
  obtain ⟨k0, k1, k2⟩ := row3 HP.out
  go_upto_region 2 with (go_at_call 58; with_reducible refine (C1.out).mono ?_; rintro e w1 ⟨q1, d1, rfl, hl, hb⟩; have HL1 := hid hl; have HB1 := hid hb; obtain ⟨k0, k1, k2⟩ := row3 (row_on HP.out hb); have f1 := row_frz (row_on HP.out hb) 1; clear hl hb)
  obtain ⟨W2, hW2⟩ : ∃ W2, w1.setCell ⟨R, 1, none⟩ (.slice q1 n1 d1) = W2 := ⟨_, rfl⟩
  have hsz2 : W2.heap.size = w1.heap.size := by rw [← hW2]; simp [World.setCell]
  have HB2 := hid (show Below w.heap.size w W2 from by rw [← hW2]; exact set_below (btr HB.out HB1.out) (by have := HR.out; omega))
  have HP2 := hid (show W2.heap[R]? = some (.cells #[.int .u64 sq, .slice q1 n1 d1, .slice p2 n2 c2] 49 (0, 0)) from by rw [← hW2]; exact set_row _ (row_on HP.out HB1.out))
  have HZ2 := hid (show W2.heap[R + 1]? = some (.cells #[.int .u64 0, .slice none 0 0, .slice none 0 0] 49 (0, 0)) from by rw [← hW2]; exact set_oth _ (row_on HZ.out HB1.out) (by omega))
  have HL2 := hid (show Lo W.heap.size W2 q1 d1 l1 from by rw [← hW2]; exact HL1.out.set (by have := HS.out; omega))
  rw [hW2]
  have HSZ := hid hsz2
  clear k0 k1 k2 f1 hW2 hsz2
  obtain ⟨k0, k1, k2⟩ := row3 HP2.out
  go_upto_region 3 with (go_at_call 58; with_reducible refine (C2.out W2 HB2.out).mono ?_; rintro e w3 ⟨q2, d2, rfl, hl, hb⟩; have HL3 := hid hl; have HB3 := hid hb; obtain ⟨k0, k1, k2⟩ := row3 (row_on HP2.out hb); have f2 := row_frz (row_on HP2.out hb) 2; clear hl hb)
  obtain ⟨W4, hW4⟩ : ∃ W4, w3.setCell ⟨R, 2, none⟩ (.slice q2 n2 d2) = W4 := ⟨_, rfl⟩
  have HB4 := hid (show Below w.heap.size w W4 from by rw [← hW4]; exact set_below (btr HB2.out HB3.out) (by have := HR.out; omega))
  have HP4 := hid (show W4.heap[R]? = some (.cells #[.int .u64 sq, .slice q1 n1 d1, .slice q2 n2 d2] 49 (0, 0)) from by rw [← hW4]; exact set_row _ (row_on HP2.out HB3.out))
  have HZ4 := hid (show W4.heap[R + 1]? = some (.cells #[.int .u64 0, .slice none 0 0, .slice none 0 0] 49 (0, 0)) from by rw [← hW4]; exact set_oth _ (row_on HZ2.out HB3.out) (by omega))
  have HL4 := hid (show Lo W.heap.size W4 q1 d1 l1 from by rw [← hW4]; exact (HL2.out.on HB3.out).set (by have := HS.out; omega))
  have HL5 := hid (show Lo W2.heap.size W4 q2 d2 l2 from by rw [← hW4]; exact HL3.out.set (by have := HS.out; have := HSZ.out; have := HB1.out.size; omega))
  rw [hW4]
  clear k0 k1 k2 f2 hW4
  obtain ⟨k0, k1, k2⟩ := row3 HP4.out
  have AI := hid (show (Try.prog.info? 49).map (·.size) = some (#[.int .u64 sq, .slice q1 n1 d1, .slice q2 n2 d2] : Array Value).size from infoP)
  have AS := hid (show (#[.int .u64 0, .slice none 0 0, .slice none 0 0] : Array Value).size = (#[.int .u64 sq, .slice q1 n1 d1, .slice q2 n2 d2] : Array Value).size from rfl)
  have AA := hid (show (#[.int .u64 sq, .slice q1 n1 d1, .slice q2 n2 d2] : Array Value).all (·.oneCell') = true from by simp [Value.oneCell'])
  go_wp2_with (refine wpList_store_row (by rfl) 49 (.tmp 2) (.tmp 11) (by rfl) (R + 1) #[.int .u64 sq, .slice q1 n1 d1, .slice q2 n2 d2] (by rfl) (by rfl) 49 _ HZ4.out AI.out AS.out AA.out ?_)
  refine bodyPost_ret (results_cell_row (fn := Try.f38) Try.results38 _ _ (R + 1) 49 #[.int .u64 sq, .slice q1 n1 d1, .slice q2 n2 d2] (0, 0) _ (by rfl) (setRow_heap _ _ _ _ 49 (0, 0) HZ4.out) Try.underlying49 rfl infoP) rfl ⟨q1, d1, q2, d2, rfl, ?_, ?_, ?_, ?_⟩
  · exact (HL4.out.setRow (by have := HS.out; omega)).base (by have := HS.out; have := HR.out; omega)
  · exact (HL5.out.setRow (by have := HS.out; have := HSZ.out; have := HB1.out.size; omega)).base HB2.out.size
  · intro g g1 g2
    have a := (HL2.out.ge g1).2
    have b := (HL5.out.ge g2).1
    omega
  · exact setRow_below HB4.out (by have := HR.out; omega)
end Go.Proofs.Ytojmcfkbekodpaa.Fd
