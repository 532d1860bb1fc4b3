/-
  Levels of one's own; copies.
-/
import Derived.Test.YtiphgfghdbmlcaaFeK
namespace Go.Proofs.Ytiphgfghdbmlcaa
open Go.RowKit Go.Deep
set_option linter.unusedVariables false
set_option linter.unusedSimpArgs false
set_option maxHeartbeats 2000000
set_option maxRecDepth 100000
theorem grown_refl (w : World) (r : Option Nat) : w.grownBy w r := ⟨rfl, rfl, rfl, Nat.le_refl _, fun _ _ _ => rfl⟩
theorem own_form {base : Nat} {w : World} {e : TypeId} {size n : Nat} {v : Value} {xs : List Value} (h : w.ownsRow base e size v n xs) : ∃ p c, v = .slice p n c := by
  obtain ⟨_, ⟨rfl, rfl⟩ | ⟨g, c, cur, rfl, _⟩⟩ := h
  · exact ⟨none, 0, rfl⟩
  · exact ⟨_, _, rfl⟩
theorem own_nil (w : World) (base : Nat) (e : TypeId) (size : Nat) : w.ownsRow base e size (.slice none 0 0) 0 [] := ⟨by simp, .inl ⟨rfl, rfl⟩⟩
theorem made0 {w : World} (U : World) (t : TypeId) (size : Nat) (h : w.heap.size ≤ U.heap.size) : (U.alloc (.cells #[] t)).ownsRow w.heap.size t size (.slice (some ⟨U.heap.size, 0, none⟩) 0 0) 0 [] := World.ownsRow_made U #[] 0 h (by unfold maxLen; omega) (by simp)
theorem own_cells {base : Nat} {w : World} {e : TypeId} {size n c : Nat} {ad : Addr} {xs : List Value} (h : w.ownsRow base e size (.slice (some ad) n c) n xs) : xs.length = n * size ∧ ∀ j u, xs[j]? = some u → w.cell? (ad.add j) = some u := by
  obtain ⟨h1, ⟨e', e2⟩ | ⟨g, c', cur, e', r1, r2, r3, r4, r5, r6⟩⟩ := h
  · cases (Value.slice.inj e').1
  · obtain ⟨e3, _, rfl⟩ := Value.slice.inj e'
    injection e3 with e3
    subst e3
    refine ⟨h1, fun j u hj => ?_⟩
    rw [Addr.add_lit, Nat.zero_add, row_cell r2]
    have hl := (List.getElem?_eq_some_iff.1 hj).1
    have := congrArg (fun z => z[j]?) r6
    simp only [List.getElem?_take, show j < n * size by omega, if_true, Array.getElem?_toList] at this
    rw [this, hj]
theorem own_cap {base : Nat} {w : World} {e : TypeId} {size n c : Nat} {p : Option Addr} {xs : List Value} (h : w.ownsRow base e size (.slice p n c) n xs) : n ≤ c ∧ c ≤ maxLen ∧ (p = none → n = 0 ∧ c = 0) := by
  obtain ⟨h1, ⟨e', e2⟩ | ⟨g, c', cur, e', r1, r2, r3, r4, r5, r6⟩⟩ := h
  · obtain ⟨_, h2, rfl⟩ := Value.slice.inj e'
    exact ⟨by omega, Nat.zero_le _, fun _ => ⟨by omega, rfl⟩⟩
  · obtain ⟨rfl, _, rfl⟩ := Value.slice.inj e'
    exact ⟨r3, r4, fun h => by cases h⟩
theorem info_parts {e : TypeId} {z : Value} {size bytes : Nat} (h : (Try.prog.info? e).map (fun i => (i.zero, i.size, i.bytes)) = some (some z, size, bytes)) : ∃ i0, Try.prog.info? e = some i0 ∧ i0.zero = some z ∧ i0.size = size ∧ i0.bytes = bytes := by
  cases hq : Try.prog.info? e with
  | none => rw [hq] at h; cases h
  | some i =>
    rw [hq] at h
    simp only [Option.map_some, Option.some.injEq, Prod.mk.injEq] at h
    exact ⟨i, rfl, h.1, h.2.1, h.2.2⟩
theorem infoL3 : (Try.prog.info? 89).map (fun i => (i.zero, i.size, i.bytes)) = some (some (.agg #[.int .i64 0, .int .u64 0, .int .i64 0]), 3, 24) := by kernel_rfl
theorem infoD6 : (Try.prog.info? 48).map (fun i => (i.zero, i.size, i.bytes)) = some (some (.agg #[.int .u64 0, .int .i64 0, .int .i64 0, .int .i64 0, .int .u64 0, .int .i64 0]), 6, 48) := by kernel_rfl
/-- rows that may be read are put behind a slice of one's own. -/
theorem wpList_app_rd {w : World} {ops : Array Oper} {rest : List Oper} {oo : Oper} {a : Act} {Q : Exit → Act → World → Prop} (hgd : oo.guard = none) (s x : Operand) (t e : TypeId) (z : Value) (size bytes : Nat)
    (ho : oo.op = .call { callee := .builtin .append, args := #[s, x], argTypes := #[t, t] }) (ht : Try.prog.underlying t = some (.slice e)) (hinf : (Try.prog.info? e).map (fun i => (i.zero, i.size, i.bytes)) = some (some z, size, bytes)) (hzs : z.cells.size = size) (hsz : 0 < size)
    (base : Nat) (v : Value) (n : Nat) (ys : List Value) (hs : a.eval s = v) (hown : w.ownsRow base e size v n ys)
    (q : Option Addr) (c m : Nat) (xs : List Value) (hx : a.eval x = .slice q m c) (hq : q = none → m = 0 ∧ c = 0) (hln : xs.length = m * size) (hrd : ∀ ad, q = some ad → ∀ j u, xs[j]? = some u → w.cell? (ad.add j) = some u) (h1 : ∀ u ∈ xs, u.oneCell' = true)
    (h63 : n + m ≤ maxLen) (hbytes : (n + m) * bytes ≤ 140737488355328) (hbase : base ≤ w.heap.size)
    (h : ∀ v' w', w'.ownsRow base e size v' (n + m) (ys ++ xs) → w.grownBy w' v.ownBlock → wpList Try.prog ops Q rest (a.put oo.dst v') w') : wpList Try.prog ops Q (oo :: rest) a w := by
  obtain ⟨i0, hi, hz0, hz1, hz2⟩ := info_parts hinf
  cases q with
  | none =>
    obtain ⟨rfl, rfl⟩ := hq rfl
    obtain rfl : xs = [] := List.length_eq_zero_iff.1 (by simpa using hln)
    exact wpList_append_own_none hgd s x t ho base e i0 size ht hi v n ys hs hown hx (h v w (by simpa using hown) (grown_refl _ _))
  | some ad =>
    exact wpList_append_own _ hgd s x t ho base e i0 _ size bytes ht hi hz0 hz1 hz2 hzs hsz v n ys hs hown ad m c xs hx hln (hrd ad rfl) h1 h63 hbytes hbase (fun v' w' h2 h3 _ => h v' w' h2 h3)
/-- levels in a slice of one's own. -/
def Lo (b : Nat) (w : World) (p : Option Addr) (c : Nat) (l : List Lv) : Prop := w.ownsRow b 89 3 (.slice p l.length c) l.length (lvc l)
theorem Lo.rl {b : Nat} {w : World} {p : Option Addr} {c : Nat} {l : List Lv} (h : Lo b w p c l) : Rl w p c l := by
  obtain ⟨h1, h2, h3⟩ := own_cap h
  refine ⟨fun e => ⟨List.length_eq_zero_iff.1 (h3 e).1, (h3 e).2⟩, h1, h2, fun ad e => ?_⟩
  subst e
  exact (own_cells h).2
theorem Lo.on {b : Nat} {w w' : World} {p : Option Addr} {c : Nat} {l : List Lv} (h : Lo b w p c l) (hb : Below w.heap.size w w') : Lo b w' p c l := own_on h hb
theorem Lo.base {b b' : Nat} {w : World} {p : Option Addr} {c : Nat} {l : List Lv} (h : Lo b w p c l) (hb : b' ≤ b) : Lo b' w p c l := own_base h hb
theorem Lo.nil0 (b : Nat) (w : World) : Lo b w none 0 [] := own_nil w b _ _
theorem below_grown {base : Nat} {w W U : World} {v : Value} {e : TypeId} {size n : Nat} {xs : List Value} (hb : Below w.heap.size w W) (hv : W.ownsRow w.heap.size e size v n xs) (hg : W.grownBy U v.ownBlock) : Below w.heap.size w U :=
  hb.grown hg hb.size (fun j hj => by
    obtain ⟨_, ⟨e, _⟩ | ⟨g, c, cur, e, r1, _⟩⟩ := hv
    · rw [e] at hj; cases hj
    · rw [e] at hj; cases hj; exact r1)
theorem copiedLevels_any (p : Option Addr) (c : Nat) (l : List Lv) (w : World) (h : Rl w p c l) (hl : l.length * 24 ≤ 140737488355328) :
    Calls Try.prog 49 #[.slice p l.length c] w fun e w' => ∃ p' c', e = .returned (.slice p' l.length c') ∧ Lo w.heap.size w' p' c' l ∧ Below w.heap.size w w' := by
  have HL := hid h
  have HX := hid (lvc_len l)
  have hcap := h.cap
  have hmax := h.max
  have HO := hid (own_nil w w.heap.size 89 3)
  obtain ⟨n, hn⟩ : ∃ n, l.length = n := ⟨_, rfl⟩
  have HN := hid hn
  have HQ := hid (show p = none → n = 0 ∧ c = 0 from fun e => by have := h.nil e; rw [← hn, this.1]; exact ⟨rfl, this.2⟩)
  rw [hn] at hl hcap HX ⊢
  clear h hn
  go_enter Try.func49, Try.ntmps49
  go_wp2_with (at_builtin; refine wpList_app_rd (by rfl) (.const (.slice none 0 0)) (.tmp 3) 28 89 _ 3 24 (by rfl) Try.underlying28 infoL3 rfl (by decide) w.heap.size _ 0 [] (by rfl) HO.out p c n (lvc l) (by rfl) HQ.out HX.out HL.out.get (lvc_one l) (by omega) (by omega) (Nat.le_refl _) ?_; intro v' w' hown hgrow; obtain ⟨p1, q1, rfl⟩ := own_form hown; have HO1 := hid hown; have HG1 := hid hgrow; clear hown hgrow)
  go_ret
  have hO := HO1.out
  simp only [Nat.zero_add, List.nil_append] at hO ⊢
  refine ⟨p1, q1, by simp, ?_, below_grown (base := 0) (Below.refl _ _) HO.out HG1.out⟩
  unfold Lo; rw [HN.out]; exact hO
end Go.Proofs.Ytiphgfghdbmlcaa
