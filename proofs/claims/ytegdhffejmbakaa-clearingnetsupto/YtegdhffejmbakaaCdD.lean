/-
  CdD
-/
import Derived.Test.YtegdhffejmbakaaCdC
import Derived.Deep.CutBlock
namespace Go.Proofs.Ytegdhffejmbakaa.Ac
open Go.RowKit Go.Deep Go.Maps BigM MonM TexM Go.Proofs.Ytegdhffejmbakaa
set_option linter.unusedVariables false
set_option linter.unusedSimpArgs false
set_option maxHeartbeats 8000000
set_option maxRecDepth 100000
attribute [local go_sem ↓] Go.wp_at_zero Go.wp_at_succ
/-- one of the document's: a member, an amount, and where it lies. -/
structure De where
  m : Int
  v : Int
  b : Bool
  p : Option Addr
  n : Nat
  c : Nat
def De.am (x : De) : Value := .agg #[.bool x.b, .slice x.p x.n x.c]
def rce (x : De) : List Value := [.int .u32 x.m, .bool x.b, .slice x.p x.n x.c]
def rcs (R : List De) : List Value := R.flatMap rce
def ams (w : World) (R : List De) : Prop := ∀ x ∈ R, Dm.Am w x.am x.v
def dmv (R : List De) : List (Int × Int) := R.map (fun x => (x.m, x.v))
theorem rcs_len (R : List De) : (rcs R).length = R.length * 3 := by
  induction R with
  | nil => rfl
  | cons x R ih => simp only [rcs, List.flatMap_cons, List.length_append, List.length_cons] at ih ⊢; rw [ih]; simp [rce]; omega
theorem rcs_app (A B : List De) : rcs (A ++ B) = rcs A ++ rcs B := by simp [rcs]
theorem rcs_cons (x : De) (B : List De) : rcs (x :: B) = rce x ++ rcs B := by simp [rcs]
theorem rcs_at (A B : List De) (x : De) (j : Nat) (hj : j < 3) : (rcs (A ++ x :: B))[A.length * 3 + j]? = (rce x)[j]? := by
  rw [rcs_app, rcs_cons, List.getElem?_append_right (by rw [rcs_len]; omega), rcs_len, List.getElem?_append_left (by simp [rce]; omega)]
  congr 1
  omega
theorem rcs_one (R : List De) : ∀ u ∈ rcs R, u.oneCell' = true := by
  intro u hu
  obtain ⟨x, _, hx⟩ := List.mem_flatMap.1 hu
  simp only [rce, List.mem_cons, List.not_mem_nil, or_false] at hx
  rcases hx with rfl | rfl | rfl <;> rfl
theorem ams_on {w w' : World} {R : List De} (h : ams w R) (hb : Below w.heap.size w w') : ams w' R := fun x hx => (h x hx).on hb
/-- a net of the document's. -/
structure Ne where
  m : Int
  i : Int
  bo : Int
  so : Int
  a : Int
  b : Bool
  p : Option Addr
  n : Nat
  c : Nat
def nea (l : List Ne) : List (Int × Int) := l.map (fun x => (x.m, x.a))
def Ne.ok (x : Ne) : Prop := U32 x.m ∧ Amt x.a
def Ez (w : World) (p : Option Addr) (l : List Ne) : Prop := ∀ k (h : k < l.length), (∃ b off, p = some ⟨b, off, none⟩ ∧ b < w.heap.size ∧ ∀ j, j < 6 → w.cell? ⟨b, off + k * 6 + j, none⟩ = (#[.int .u32 l[k].m, .int .u32 l[k].i, .int .u64 l[k].bo, .int .u64 l[k].so, .bool l[k].b, .slice l[k].p l[k].n l[k].c] : Array Value)[j]?) ∧ Dm.Am w (.agg #[.bool l[k].b, .slice l[k].p l[k].n l[k].c]) l[k].a
def RDuP (base : Nat) (w' : World) (e : Ending) : Option (Int → Option Int) → Prop
  | none => e = .returned (.tuple #[.slice none 0 0, .int .i64 10])
  | some f => ∃ (R : List De) (q : Option Addr) (d n : Nat), R.length = n ∧ e = .returned (.tuple #[.slice q n d, .int .i64 0]) ∧ Rel f (dmv R) ∧ w'.ownsRow base 54 3 (.slice q n d) n (rcs R) ∧ ams w' R
theorem rel_new {f : Int → Option Int} {A B : List (Int × Int)} {m : Int} (h : Rel f (A ++ B)) (hA : ∀ x ∈ A, x.1 < m) (hB : ∀ x ∈ B, m < x.1) (hm : U32 m) : f m = none ∧ ∀ nv, Amt nv → Rel (upd f m nv) (A ++ (m, nv) :: B) := by
  have hn : f m = none := by
    cases e : f m with
    | none => rfl
    | some v =>
      have := (h.iff m v hm).1 e
      rcases List.mem_append.1 this with h1 | h1
      · have := hA _ h1; simp at this
      · have := hB _ h1; simp at this
  refine ⟨hn, fun nv hv => ⟨?_, fun x hx => ?_, fun m' v hm' => ?_⟩⟩
  · have hu := h.up
    rw [List.map_append, List.pairwise_append] at hu
    rw [List.map_append, List.map_cons, List.pairwise_append, List.pairwise_cons]
    refine ⟨hu.1, ⟨fun y hy => ?_, hu.2.1⟩, fun a ha y hy => ?_⟩
    · obtain ⟨z, hz, rfl⟩ := List.mem_map.1 hy
      exact hB z hz
    · obtain ⟨z, hz, rfl⟩ := List.mem_map.1 ha
      rcases List.mem_cons.1 hy with rfl | hy
      · exact hA z hz
      · exact hu.2.2 _ ha _ hy
  · rcases List.mem_append.1 hx with h1 | h1
    · exact h.ok x (List.mem_append_left _ h1)
    · rcases List.mem_cons.1 h1 with rfl | h1
      · exact ⟨hm, hv⟩
      · exact h.ok x (List.mem_append_right _ h1)
  · by_cases e : m' = m
    · subst e
      rw [upd_same]
      constructor
      · intro e; cases e; simp
      · intro e
        rcases List.mem_append.1 e with h1 | h1
        · have := hA _ h1; simp at this
        · rcases List.mem_cons.1 h1 with h1 | h1
          · injection h1 with _ h1; rw [h1]
          · have := hB _ h1; simp at this
    · rw [upd_other _ _ e, h.iff m' v hm', List.mem_append, List.mem_append, List.mem_cons]
      constructor
      · rintro (h1 | h1)
        · exact .inl h1
        · exact .inr (.inr h1)
      · rintro (h1 | h1 | h1)
        · exact .inl h1
        · injection h1 with h1 _; exact absurd h1 e
        · exact .inr h1
theorem rel_there {f : Int → Option Int} {A B : List (Int × Int)} {m old : Int} (h : Rel f (A ++ (m, old) :: B)) (hm : U32 m) : f m = some old ∧ ∀ nv, Amt nv → Rel (upd f m nv) (A ++ (m, nv) :: B) := by
  have hf : f m = some old := (h.iff m old hm).2 (by simp)
  have hu := h.up
  rw [List.map_append, List.map_cons, List.pairwise_append, List.pairwise_cons] at hu
  refine ⟨hf, fun nv hv => ⟨?_, fun x hx => ?_, fun m' v hm' => ?_⟩⟩
  · rw [List.map_append, List.map_cons, List.pairwise_append, List.pairwise_cons]
    exact hu
  · rcases List.mem_append.1 hx with h1 | h1
    · exact h.ok x (List.mem_append_left _ h1)
    · rcases List.mem_cons.1 h1 with rfl | h1
      · exact ⟨hm, hv⟩
      · exact h.ok x (List.mem_append_right _ (List.mem_cons_of_mem _ h1))
  · by_cases e : m' = m
    · subst e
      rw [upd_same]
      constructor
      · intro e; cases e; simp
      · intro e
        rcases List.mem_append.1 e with h1 | h1
        · have := hu.2.2 m' (List.mem_map.2 ⟨_, h1, rfl⟩) m' (by simp)
          omega
        · rcases List.mem_cons.1 h1 with h1 | h1
          · injection h1 with _ h1; rw [h1]
          · have := hu.2.1.1 m' (List.mem_map.2 ⟨_, h1, rfl⟩)
            omega
    · rw [upd_other _ _ e, h.iff m' v hm', List.mem_append, List.mem_append, List.mem_cons, List.mem_cons]
      constructor
      · rintro (h1 | h1 | h1)
        · exact .inl h1
        · injection h1 with h1 _; exact absurd h1 e
        · exact .inr (.inr h1)
      · rintro (h1 | h1 | h1)
        · exact .inl h1
        · injection h1 with h1 _; exact absurd h1 e
        · exact .inr (.inr h1)
theorem infoR3 : (Try.prog.info? 54).map (fun i => (i.zero, i.size, i.bytes)) = some (some (.agg #[.int .u32 0, .bool false, .slice none 0 0]), 3, 40) := by kernel_rfl
theorem own_some {base : Nat} {w : World} {e : TypeId} {size n c : Nat} {p : Option Addr} {xs : List Value} (h : w.ownsRow base e size (.slice p n c) n xs) (hn : 0 < n) : ∃ g, p = some ⟨g, 0, none⟩ ∧ base ≤ g ∧ g < w.heap.size := by
  obtain ⟨h1, ⟨h2, h3⟩ | ⟨g, c', cur, h2, r1, r2, r⟩⟩ := h
  · omega
  · injection h2 with h2 _ _
    exact ⟨g, h2, r1, row_lt r2⟩
theorem own_cap {base : Nat} {w : World} {e : TypeId} {size n c : Nat} {p : Option Addr} {xs : List Value} (h : w.ownsRow base e size (.slice p n c) n xs) : n ≤ c ∧ c ≤ maxLen ∧ (p = none → n = 0 ∧ c = 0) := by
  obtain ⟨h1, ⟨h2, h3⟩ | ⟨g, c', cur, h2, r1, r2, r3, r4, r5, r6⟩⟩ := h
  · injection h2 with h2 h4 h5
    exact ⟨by omega, by unfold maxLen; omega, fun _ => ⟨h4, h5⟩⟩
  · injection h2 with h2 h4 h5
    exact ⟨by omega, by omega, fun e => by rw [h2] at e; cases e⟩
theorem ownD {base : Nat} {w w' : World} {v : Value} {e : TypeId} {size n : Nat} {xs : List Value} (h : w.ownsRow base e size v n xs) (hg : w.grownBy w' v.ownBlock) (he : e ≠ 23) : Dg w w' := Dg.grown hg he (fun g hb => own_ty h hb)
theorem own_setc {base : Nat} {w : World} {e : TypeId} {g n c size : Nat} {xs : List Value} (h : w.ownsRow base e size (.slice (some ⟨g, 0, none⟩) n c) n xs) (i : Nat) (v : Value) : (w.setCell ⟨g, i, none⟩ v).ownsRow base e size (.slice (some ⟨g, 0, none⟩) n c) n (xs.set i v) := by
  obtain ⟨h1, ⟨e1, e2⟩ | ⟨g', c', cur, e1, r1, r2, r3, r4, r5, r6⟩⟩ := h
  · cases (Value.slice.inj e1).1
  · obtain ⟨e3, _, rfl⟩ := Value.slice.inj e1
    injection e3 with e3
    injection e3 with e3
    subst e3
    refine ⟨by rw [List.length_set]; exact h1, .inr ⟨g, c, _, rfl, r1, heap_setCell_same w g i cur e v r2, r3, r4, by simpa using r5, ?_⟩⟩
    rw [← r6, Array.toList_setIfInBounds, List.take_set]
theorem rcs_set (A B : List De) (m v v' : Int) (b b' : Bool) (p p' : Option Addr) (n n' c c' : Nat) : ((rcs (A ++ ⟨m, v, b, p, n, c⟩ :: B)).set (A.length * 3 + 1) (.bool b')).set (A.length * 3 + 2) (.slice p' n' c') = rcs (A ++ ⟨m, v', b', p', n', c'⟩ :: B) := by
  have e : ∀ (L : List Value) (j : Nat) (u : Value), (rcs A ++ L).set (A.length * 3 + j) u = rcs A ++ L.set j u := fun L j u => by
    rw [List.set_append_right _ _ (by rw [rcs_len]; omega), rcs_len]
    congr 2
    omega
  rw [rcs_app, rcs_app, rcs_cons, rcs_cons, e, e]
  rfl
theorem own_frz {base : Nat} {w : World} {e : TypeId} {g n c size : Nat} {xs : List Value} (h : w.ownsRow base e size (.slice (some ⟨g, 0, none⟩) n c) n xs) (j : Nat) : w.frozen? ⟨g, j, none⟩ = false := by
  obtain ⟨cur, hc⟩ := own_ty h (g := g) rfl
  exact row_frz hc j
theorem infoA2 : (Try.prog.info? 41).map (·.size) = some 2 := by kernel_rfl
theorem own_at {base : Nat} {w : World} {e : TypeId} {size n c : Nat} {a : Addr} {xs : List Value} (h : w.ownsRow base e size (.slice (some a) n c) n xs) : ∃ g, a = ⟨g, 0, none⟩ ∧ base ≤ g ∧ g < w.heap.size := by
  obtain ⟨h1, ⟨h2, h3⟩ | ⟨g, c', cur, h2, r1, r2, r⟩⟩ := h
  · cases (Value.slice.inj h2).1
  · injection h2 with h2 _ _
    injection h2 with h2
    exact ⟨g, h2, r1, row_lt r2⟩
theorem own_empty (w : World) (t : TypeId) (s : Nat) : (w.alloc (.cells #[] t)).ownsRow w.heap.size t s (.slice (some ⟨w.heap.size, 0, none⟩) 0 0) 0 [] :=
  ⟨by simp, .inr ⟨w.heap.size, 0, #[], rfl, Nat.le_refl _, World.alloc_heap_new _ _, Nat.le_refl _, by simp, by simp, by simp⟩⟩
theorem rcs_take (A B : List De) (w : World) (g : Nat) {base n c : Nat} (h : w.ownsRow base 54 3 (.slice (some ⟨g, 0, none⟩) n c) n (rcs (A ++ B))) : ∀ j u, (rcs A)[j]? = some u → w.cell? ((⟨g, 0, none⟩ : Addr).add j) = some u := fun j u hj => by
  refine (Dm.own_cells h).2 j u ?_
  rw [rcs_app, List.getElem?_append_left (List.getElem?_eq_some_iff.1 hj).1]
  exact hj
theorem rcs_drop (A B : List De) (w : World) (g : Nat) {base n c : Nat} (h : w.ownsRow base 54 3 (.slice (some ⟨g, 0, none⟩) n c) n (rcs (A ++ B))) : ∀ j u, (rcs B)[j]? = some u → w.cell? ((⟨g, A.length * 3, none⟩ : Addr).add j) = some u := fun j u hj => by
  have h1 := (Dm.own_cells h).2 (A.length * 3 + j) u (by
    rw [rcs_app, List.getElem?_append_right (by rw [rcs_len]; omega), rcs_len]
    rw [show A.length * 3 + j - A.length * 3 = j from by omega]
    exact hj)
  rw [Addr.add_lit, Nat.zero_add] at h1
  rw [Addr.add_lit]
  exact h1
theorem setRow_kp (w : World) (g : Nat) (cs : Array Value) : Kp (fun b => b = g) w (w.setRow g cs) :=
  ⟨rfl, rfl, rfl, by simp [World.setRow], fun b _ hb => setRow_other w g b cs (fun e => hb e)⟩
theorem setRow_below {w W : World} {g : Nat} {cs : Array Value} (h : Below w.heap.size w W) (hg : w.heap.size ≤ g) : Below w.heap.size w (W.setRow g cs) := Dm.setRow_below h hg
theorem step_store_row {P : Program} {w : World} {ops : Array Oper} {o : Oper} {a : Act} {K : Act → World → Prop} {Q : Exit → Act → World → Prop} {E : Prop} (hgd : o.guard = none) (ty : TypeId) (x y : Operand) (ho : o.op = .store ty x y)
    (g : Nat) (cells : Array Value) (hx : a.eval x = .pointer (some ⟨g, 0, none⟩)) (hy : a.eval y = .agg cells)
    (t : TypeId) (old : Array Value) (hg : w.heap[g]? = some (.cells old t (0, 0))) (hi : (P.info? ty).map (·.size) = some cells.size)
    (hold : old.size = cells.size) (h1 : cells.all (·.oneCell') = true)
    (h : K (a.put o.dst undef) (w.setRow g cells)) : if Region.wanted o (yielded ops a.tmps) = true then Oper.wp P o a w K Q else E := Dm.step_store_row hgd ty x y ho g cells hx hy t old hg hi hold h1 h
theorem reg_cut {P : Program} {id : Nat} {ops : Array Oper} {b : Bool} {Q : Exit → Act → World → Prop} {a : Act} {w : World} {X : Type} (F : Act → X → Act) (T : X → World → Prop)
    (h1 : (Code.region id ops b).wp P (fun e a' w' => match e with | .normal => ∃ x, a' = F a x ∧ T x w' | _ => False) a w)
    (h2 : ∀ x w', T x w' → Q .normal (F a x) w') : (Code.region id ops b).wp P Q a w :=
  wp_mono h1 (fun e a' w' h => by
    cases e with
    | normal => obtain ⟨x, rfl, ht⟩ := h; exact h2 x w' ht
    | _ => exact h.elim)
theorem step_app_rd {w : World} {ops : Array Oper} {oo : Oper} {a : Act} {K : Act → World → Prop} {Q : Exit → Act → World → Prop} {E : Prop} (hgd : oo.guard = none) (s x : Operand) (t e : TypeId) (z : Value) (size bytes : Nat)
    (ho : oo.op = .call { callee := .builtin .append, args := #[s, x], argTypes := #[t, t] }) (ht : Try.prog.underlying t = some (.slice e)) (hinf : (Try.prog.info? e).map (fun i => (i.zero, i.size, i.bytes)) = some (some z, size, bytes)) (hzs : z.cells.size = size) (hsz : 0 < size)
    (base : Nat) (v : Value) (n : Nat) (ys : List Value) (hs : a.eval s = v) (hown : w.ownsRow base e size v n ys)
    (ad : Addr) (c m : Nat) (xs : List Value) (hx : a.eval x = .slice (some ad) m c) (hln : xs.length = m * size) (hrd : ∀ j u, xs[j]? = some u → w.cell? (ad.add j) = some u) (h1 : ∀ u ∈ xs, u.oneCell' = true)
    (h63 : n + m ≤ maxLen) (hbytes : (n + m) * bytes ≤ 140737488355328) (hbase : base ≤ w.heap.size)
    (h : ∀ v' w', w'.ownsRow base e size v' (n + m) (ys ++ xs) → w.grownBy w' v.ownBlock → K (a.put oo.dst v') w') : if Region.wanted oo (yielded ops a.tmps) = true then Oper.wp Try.prog oo a w K Q else E := by
  have hw : Region.wanted oo (yielded ops a.tmps) = true := by simp [Region.wanted, hgd]
  rw [if_pos hw]
  obtain ⟨i0, hi, hz0, hz1, hz2⟩ := Dm.info_parts9 hinf
  exact wp_append_own _ s x t ho base e i0 _ size bytes ht hi hz0 hz1 hz2 hzs hsz v n ys hs hown ad m c xs hx hln hrd h1 h63 hbytes hbase (fun v' w' h2 h3 _ => h v' w' h2 h3)
theorem rdues_any {w : World} {p : Option Addr} {c : Nat} {l : List Ne} (hz : Ez w p l) (hok : ∀ x ∈ l, x.ok) (hm : l.length ≤ 1000000000) :
    Calls Try.prog 9 #[.slice p l.length c] w fun e w' => RDuP w.heap.size w' e (dues (fun _ => none) (nea l)) ∧ Below w.heap.size w w' := by
  obtain ⟨n, hn⟩ : ∃ n, l.length = n := ⟨_, rfl⟩
  obtain ⟨b, hb⟩ : ∃ b, w.heap.size = b := ⟨_, rfl⟩
  have HB := hid hb
  have HZ := hid hz
  have HOK := hid hok
  have HN := hid hn
  have HM := hid (show n ≤ 1000000000 from by rw [← hn]; exact hm)
  rw [hn, hb]
  clear hz hok hm hn hb
  go_enter Try.func9, Try.ntmps9
  go_upto_region 3 with fail
  go_loopw [4, 5] (fun ov iv wr => ∃ (i k d : Nat) (q : Option Addr) (R : List De) (f : Int → Option Int), i ≤ n ∧ iv = .int .i64 (i : Nat) ∧ ov = .slice q k d ∧ Hid (R.length = k) ∧ Hid (k ≤ i) ∧ Hid (Rel f (dmv R)) ∧ Hid (dues f (nea (l.drop i)) = dues (fun _ => none) (nea l)) ∧ Hid (wr.ownsRow b 54 3 (.slice q k d) k (rcs R)) ∧ Hid (ams wr R) ∧ Hid (Below b w wr)) (fun _ iv _ => n - (intOf iv).toNat)
  case atStart => exact ⟨0, 0, 0, none, [], (fun _ => none), Nat.zero_le _, rfl, rfl, rfl, Nat.le_refl _, ⟨List.Pairwise.nil, fun x h => (by cases h), fun m v _ => ⟨fun h => (by cases h), fun h => (by cases h)⟩⟩, by rw [List.drop_zero]; exact rfl, own_nil _ _ _ _, fun x h => (by cases h), by rw [← HB.out]; exact Below.refl _ _⟩
  case round =>
    obtain ⟨i, k, d, q, R, f, hin, rfl, rfl, HK, HKI, HR, HDU, HO, HA, BW⟩ := hrel
    by_cases hlt : i < n
    · have hi' : i < l.length := by rw [HN.out]; exact hlt
      obtain ⟨⟨z, off, rfl, hbl, hc⟩, hax⟩ := HZ.out i hi'
      have ok := HOK.out _ (List.getElem_mem hi')
      have hdr : l.drop i = l[i] :: l.drop (i + 1) := List.drop_eq_getElem_cons hi'
      have HDU := hid (show dues f (nea (l[i] :: l.drop (i + 1))) = dues (fun _ => none) (nea l) from by rw [← hdr]; exact HDU.out)
      clear hdr
      generalize l[i] = x at hc ok HDU hax
      obtain ⟨m, ii, bo, so, am, bv, xp, xn, xc⟩ := x
      obtain ⟨hum, ham⟩ := ok
      have HUM := hid (show U32 m from hum)
      have HAMT := hid (show Amt am from ham)
      have SB := hid (show b ≤ wr.heap.size from by rw [← HB.out]; exact BW.out.size)
      have C0 := hid (show ∀ U, Below b w U → U.cell? ⟨z, off + i * 6, none⟩ = some (.int .u32 m) from fun U h => (h.cell (p := ⟨z, off + i * 6 + 0, none⟩) (by rw [← HB.out]; exact hbl)).trans (hc 0 (by decide)))
      have C4 := hid (show ∀ U, Below b w U → U.cell? ⟨z, off + i * 6 + 4, none⟩ = some (.bool bv) from fun U h => (h.cell (p := ⟨z, off + i * 6 + 4, none⟩) (by rw [← HB.out]; exact hbl)).trans (hc 4 (by decide)))
      have C5 := hid (show ∀ U, Below b w U → U.cell? ⟨z, off + i * 6 + 5, none⟩ = some (.slice xp xn xc) from fun U h => (h.cell (p := ⟨z, off + i * 6 + 5, none⟩) (by rw [← HB.out]; exact hbl)).trans (hc 5 (by decide)))
      have AX := hid (show ∀ U, Below b w U → Dm.Am U (.agg #[.bool bv, .slice xp xn xc]) am from fun U h => Dm.Am.on hax (by rw [HB.out]; exact h))
      have i0 : (0 : Int) ≤ (i : Int) := by omega
      have i1 : (i : Int) < (n : Int) := by omega
      have wi : IntKind.i64.wrap ((i : Int) + 1) = ((i + 1 : Nat) : Int) := by have := HM.out; rw [IntKind.wrap_i64]; omega
      have HLT := hid hlt
      have HCP := hid (own_cap HO.out)
      have kc : k ≤ d := HCP.out.1
      clear hlt hin hi' hbl hum ham hc hax
      obtain ⟨wo, rfl⟩ : ∃ x, x = wr := ⟨_, rfl⟩
      go_upto_region 6 with fail
      go_loopw [6] (fun av wr => ∃ (t : Nat), t ≤ k ∧ av = .int .i64 (t : Nat) ∧ Hid (∀ x ∈ R.take t, x.m < m) ∧ Hid (Below wo.heap.size wo wr)) (fun av _ => k - (intOf av).toNat)
      case atStart => exact ⟨0, Nat.zero_le _, rfl, fun x h => (by simp at h), Below.refl _ _⟩
      case round =>
        obtain ⟨t, htk, rfl, HL, BV⟩ := hrel
        have BWV := hid (BW.out.trans (BV.out.mono SB.out))
        have c0 := C0.out wr BWV.out
        have t0 : (0 : Int) ≤ (t : Int) := by omega
        by_cases htl : t < k
        · have tk : ((t : Int) == (k : Int)) = false := by simp; omega
          obtain ⟨g, rfl, hg1, hg2⟩ := own_some HO.out (by omega)
          have ht' : t < R.length := by rw [HK.out]; exact htl
          have HSP := hid (show R = R.take t ++ R[t] :: R.drop (t + 1) from by rw [← List.drop_eq_getElem_cons ht', List.take_append_drop])
          generalize R[t] = y at HSP
          have HTL := hid (show (R.take t).length = t from by rw [List.length_take]; omega)
          have gc : wr.cell? ⟨g, t * 3, none⟩ = some (.int .u32 y.m) := by
            have h1 := (Dm.own_cells HO.out).2 (t * 3) (.int .u32 y.m) (by
              rw [HSP.out]
              have := rcs_at (R.take t) (R.drop (t + 1)) y 0 (by decide)
              rw [HTL.out] at this
              exact this)
            rw [Addr.add_lit, Nat.zero_add] at h1
            exact (BV.out.cell (p := ⟨g, t * 3, none⟩) hg2).trans h1
          obtain ⟨ym, hym⟩ : ∃ x, y.m = x := ⟨_, rfl⟩
          rw [hym] at gc
          have t1 : (t : Int) < (k : Int) := by omega
          have HTK := hid htl
          have wt : IntKind.i64.wrap ((t : Int) + 1) = ((t + 1 : Nat) : Int) := by have := HM.out; have := HLT.out; have := HKI.out; rw [IntKind.wrap_i64]; omega
          have HYM := hid hym
          have HG := hid (And.intro hg1 hg2)
          by_cases hlm : ym < m
          · have HLM := hid hlm
            clear htl htk ht' hym hg1 hg2
            go_upto_region 6 with fail
            go_big_quiet (fail)
            clear gc c0 hlm
            go_wp2
            go_roundw
            case rel =>
              refine ⟨t + 1, HTK.out, by go_num, hid (fun x hx => ?_), hid (btr BV.out (bdrew _ _))⟩
              rw [HSP.out] at hx
              have e : t + 1 = (R.take t).length + 1 := by rw [HTL.out]
              rw [e, List.take_length_add_append] at hx
              simp at hx
              rcases hx with hx | hx
              · exact HL.out x (by simpa using hx)
              · rw [hx, HYM.out]; exact HLM.out
            case measure => have := HTK.out; simp [intOf]; omega
          · have HLM := hid hlm
            clear htl htk ht' hym hg1 hg2
            go_upto_region 6 with fail
            go_big_quiet (fail)
            clear gc c0
            obtain ⟨V, hV⟩ : ∃ V, wr.drewN nq = V := ⟨_, rfl⟩
            have BV2 := hid (show Below wo.heap.size wo V from by rw [← hV]; exact btr BV.out (bdrew _ _))
            rw [hV]
            clear hV BV BWV
            obtain ⟨y1, ov, yb, yp, yn, yc⟩ := y
            have hym2 : y1 = ym := HYM.out
            subst hym2
            have gc : V.cell? ⟨g, t * 3, none⟩ = some (.int .u32 y1) := (BV2.out.cell (p := ⟨g, t * 3, none⟩) HG.out.2).trans (by
              have h1 := (Dm.own_cells HO.out).2 (t * 3) (.int .u32 y1) (by
                rw [HSP.out]
                have := rcs_at (R.take t) (R.drop (t + 1)) ⟨y1, ov, yb, yp, yn, yc⟩ 0 (by decide)
                rw [HTL.out] at this
                exact this)
              rw [Addr.add_lit, Nat.zero_add] at h1
              exact h1)
            have c0 := C0.out V (BW.out.trans (BV2.out.mono SB.out))
            by_cases hem : y1 = m
            · subst hem
              obtain ⟨A, hA⟩ : ∃ A, R.take t = A := ⟨_, rfl⟩
              obtain ⟨B, hB⟩ : ∃ B, R.drop (t + 1) = B := ⟨_, rfl⟩
              have hsp := HSP.out
              rw [hA, hB] at hsp
              have HAL := hid (show A.length = t from by rw [← hA]; exact HTL.out)
              have HRS := hid hsp
              have HRT := hid (rel_there (f := f) (A := dmv A) (B := dmv B) (m := y1) (old := ov) (by have h1 := HR.out; rw [hsp] at h1; unfold dmv at h1 ⊢; rw [List.map_append, List.map_cons] at h1; exact h1) HUM.out)
              have HRN := hid HRT.out.2
              have HOLD := hid (show (f y1).getD 0 = ov from by rw [HRT.out.1]; rfl)
              have HKK := hid (show k = A.length + 1 + B.length from by rw [← HK.out, hsp]; simp; omega)
              have HKI2 := hid (show k ≤ i + 1 from by have := HKI.out; omega)
              clear hA hB hsp
              go_upto_region 8 with fail
              go_big_quiet (fail)
              obtain ⟨W, hW⟩ : ∃ U, V.drewN nq = U := ⟨_, rfl⟩
              have BWo := hid (show Below wo.heap.size wo W from by rw [← hW]; exact btr BV2.out (bdrew _ _))
              have HOW := hid (show W.ownsRow b 54 3 (.slice (some ⟨g, 0, none⟩) k d) k (rcs (A ++ ⟨y1, ov, yb, yp, yn, yc⟩ :: B)) from by rw [← HRS.out]; exact own_on HO.out BWo.out)
              have HAW := hid (show ams W (A ++ ⟨y1, ov, yb, yp, yn, yc⟩ :: B) from by rw [← HRS.out]; exact ams_on HA.out BWo.out)
              rw [hW]
              obtain ⟨K, hK9⟩ : ∃ K, k = K := ⟨_, rfl⟩
              obtain ⟨D, hD9⟩ : ∃ D, d = D := ⟨_, rfl⟩
              subst hK9 hD9
              clear hW BV2 gc
              obtain ⟨G, hG, hGb, hGW⟩ := own_some HOW.out (by have := HKK.out; omega)
              injection hG with hG
              injection hG with hG
              subst hG
              have HGG := hid (And.intro hGb hGW)
              have BbW := hid (show Below b w W from BW.out.trans (BWo.out.mono SB.out))
              have HCW := hid (own_cap HOW.out)
              have K1 := hid (show ∀ U, Below W.heap.size W U → U.cell? ⟨g, t * 3 + 1, none⟩ = some (.bool yb) from fun U h => (h.cell (p := ⟨g, t * 3 + 1, none⟩) HGG.out.2).trans (by
                have h1 := (Dm.own_cells HOW.out).2 (A.length * 3 + 1) (.bool yb) (rcs_at A B _ 1 (by decide))
                rw [Addr.add_lit, Nat.zero_add, HAL.out] at h1
                exact h1))
              have K2 := hid (show ∀ U, Below W.heap.size W U → U.cell? ⟨g, t * 3 + 2, none⟩ = some (.slice yp yn yc) from fun U h => (h.cell (p := ⟨g, t * 3 + 2, none⟩) HGG.out.2).trans (by
                have h1 := (Dm.own_cells HOW.out).2 (A.length * 3 + 2) (.slice yp yn yc) (rcs_at A B _ 2 (by decide))
                rw [Addr.add_lit, Nat.zero_add, HAL.out] at h1
                exact h1))
              have K4 := hid (show ∀ U, Below W.heap.size W U → U.cell? ⟨z, off + i * 6 + 4, none⟩ = some (.bool bv) from fun U h => C4.out U (BbW.out.trans (h.mono (by rw [← HB.out]; exact BbW.out.size))))
              have K5 := hid (show ∀ U, Below W.heap.size W U → U.cell? ⟨z, off + i * 6 + 5, none⟩ = some (.slice xp xn xc) from fun U h => C5.out U (BbW.out.trans (h.mono (by rw [← HB.out]; exact BbW.out.size))))
              have AY := hid (show Dm.Am W (.agg #[.bool yb, .slice yp yn yc]) ov from HAW.out ⟨y1, ov, yb, yp, yn, yc⟩ (by simp))
              have HOVA := hid (show Amt ov from by
                rw [← HOLD.out]
                cases e : f y1 with
                | none => exact ⟨by decide, by decide⟩
                | some v => exact (HR.out.ok (y1, v) ((HR.out.iff y1 v HUM.out).1 e)).2)
              have CA := hid (show ∀ U, Below W.heap.size W U → Calls Try.prog 22 #[.agg #[.bool yb, .slice yp yn yc], .agg #[.bool bv, .slice xp xn xc]] U fun e w' => Dm.Ans w' e (maddV ov am) (maddE ov am) ∧ Hid (Below U.heap.size U w') from fun U h => Dm.radd_any _ _ ov am U (AY.out.on h) (AX.out U (BbW.out.trans (h.mono (by rw [← HB.out]; exact BbW.out.size)))) HOVA.out HAMT.out)
              have HMV := hid (madd_amt ov am)
              have HST := hid (show dues f ((y1, am) :: nea (l.drop (i + 1))) = if maddE ov am = 0 then dues (upd f y1 (maddV ov am)) (nea (l.drop (i + 1))) else none from by rw [dues, HOLD.out])
              obtain ⟨er, her⟩ : ∃ x, maddE ov am = x := ⟨_, rfl⟩
              obtain ⟨nv, hnv⟩ : ∃ x, maddV ov am = x := ⟨_, rfl⟩
              have HER := hid (show er = 0 ∨ er = 10 from by rw [← her]; exact maddE_or _ _)
              rw [her, hnv] at CA HST
              rw [hnv] at HMV
              have t1 : (t : Int) < (k : Int) := by have := HKK.out; have := HAL.out; omega
              clear her hnv hGb hGW
              go_upto_region 12 with fail
              refine reg_cut (X := Nat × Bool × Option Addr × Nat × Nat) (fun a T9 => ((((((((((((((((a.put (some 73) (.slice (some ⟨g, 0, none⟩) k d)).put (some 74) (.int .i64 t)).put (some 75) (.pointer (some ⟨g, t * 3, none⟩))).put (some 76) (.pointer (some ⟨g, t * 3 + 1, none⟩))).put (some 77) (.agg #[.bool yb, .slice yp yn yc])).put (some 78) (.slice (some ⟨z, off, none⟩) n c)).put (some 79) (.int .i64 i)).put (some 80) (.pointer (some ⟨z, off + i * 6, none⟩))).put (some 81) (.pointer (some ⟨z, off + i * 6 + 4, none⟩))).put (some 82) (.agg #[.bool bv, .slice xp xn xc])).put (some 83) (.tuple #[.agg #[.bool T9.2.1, .slice T9.2.2.1 T9.2.2.2.1 T9.2.2.2.2], .int .i64 er])).put (some 72) (.tuple #[.agg #[.bool T9.2.1, .slice T9.2.2.1 T9.2.2.2.1 T9.2.2.2.2], .int .i64 er])).put (some 84) (.agg #[.bool T9.2.1, .slice T9.2.2.1 T9.2.2.2.1 T9.2.2.2.2])).put (some 85) (.int .i64 er)).put (some 8) (.pointer (some ⟨T9.1, 0, none⟩))).put (some 9) (.int .i64 er))) (fun T9 V9 => Hid (Below W.heap.size W V9) ∧ Hid (V9.heap[T9.1]? = some (.cells #[.bool T9.2.1, .slice T9.2.2.1 T9.2.2.2.1 T9.2.2.2.2] 41 (0, 0))) ∧ Hid (Dm.Am V9 (.agg #[.bool T9.2.1, .slice T9.2.2.1 T9.2.2.2.1 T9.2.2.2.2]) nv) ∧ Hid (W.heap.size ≤ T9.1)) ?_ ?_
              · obtain ⟨V1, hV1⟩ : ∃ U, W.drew = U := ⟨_, rfl⟩
                have BV1 := hid (show Below W.heap.size W V1 from by rw [← hV1]; exact bdrew1 _)
                refine wp_region_held_drew (S := (fun U => U.cell? ⟨g, t * 3 + 1, none⟩ = some (.bool yb) ∧ U.cell? ⟨g, t * 3 + 2, none⟩ = some (.slice yp yn yc) ∧ U.cell? ⟨z, off + i * 6 + 4, none⟩ = some (.bool bv) ∧ U.cell? ⟨z, off + i * 6 + 5, none⟩ = some (.slice xp xn xc))) (by kernel_rfl) ?_ (fun hHeld => ?_)
                · (try dsimp only); rw [hV1]; exact ⟨K1.out _ BV1.out, K2.out _ BV1.out, K4.out _ BV1.out, K5.out _ BV1.out⟩
                rw [hV1] at hHeld ⊢
                clear hV1
                refine' wpAnyH_take (i := 0) (oi := _) (v := _) rfl (by kernel_rfl) (by kernel_rfl) (by kernel_rfl) (fun _ _ _ h => h) (Or.inl ⟨by kernel_rfl, ?_⟩) (by assumption) ?_
                rotate_left
                · (intro w hSw; (try dsimp only at hSw); go_simp; try (with_reducible rfl))
                try simp only [List.getElem_toArray, List.getElem_cons_succ, List.getElem_cons_zero, Act.put, List.setIfInBounds_toArray, List.set_cons_zero, List.set_cons_succ]
                refine' wpAnyH_take (i := 1) (oi := _) (v := _) rfl (by kernel_rfl) (by kernel_rfl) (by kernel_rfl) (fun _ _ _ h => h) (Or.inl ⟨by kernel_rfl, ?_⟩) (by assumption) ?_
                rotate_left
                · (intro w hSw; (try dsimp only at hSw); go_simp; try (with_reducible rfl))
                try simp only [List.getElem_toArray, List.getElem_cons_succ, List.getElem_cons_zero, Act.put, List.setIfInBounds_toArray, List.set_cons_zero, List.set_cons_succ]
                refine' wpAnyH_take (i := 2) (oi := _) (v := _) rfl (by kernel_rfl) (by kernel_rfl) (by kernel_rfl) (fun _ _ _ h => h) (Or.inl ⟨by kernel_rfl, ?_⟩) (by assumption) ?_
                rotate_left
                · (intro w hSw; (try dsimp only at hSw); go_simp; try (with_reducible rfl))
                try simp only [List.getElem_toArray, List.getElem_cons_succ, List.getElem_cons_zero, Act.put, List.setIfInBounds_toArray, List.set_cons_zero, List.set_cons_succ]
                refine' wpAnyH_take (i := 3) (oi := _) (v := _) rfl (by kernel_rfl) (by kernel_rfl) (by kernel_rfl) (fun _ _ _ h => h) (Or.inl ⟨by kernel_rfl, ?_⟩) (by assumption) ?_
                rotate_left
                · (intro w hSw; (try dsimp only at hSw); go_simp; try (with_reducible rfl))
                try simp only [List.getElem_toArray, List.getElem_cons_succ, List.getElem_cons_zero, Act.put, List.setIfInBounds_toArray, List.set_cons_zero, List.set_cons_succ]
                refine' wpAnyH_take (i := 4) (oi := _) (v := _) rfl (by kernel_rfl) (by kernel_rfl) (by kernel_rfl) (fun _ _ _ h => h) (Or.inl ⟨by kernel_rfl, ?_⟩) (by assumption) ?_
                rotate_left
                · (intro w hSw; (try dsimp only at hSw); go_simp; try (with_reducible rfl))
                try simp only [List.getElem_toArray, List.getElem_cons_succ, List.getElem_cons_zero, Act.put, List.setIfInBounds_toArray, List.set_cons_zero, List.set_cons_succ]
                refine' wpAnyH_take (i := 5) (oi := _) (v := _) rfl (by kernel_rfl) (by kernel_rfl) (by kernel_rfl) (fun _ _ _ h => h) (Or.inl ⟨by kernel_rfl, ?_⟩) (by assumption) ?_
                rotate_left
                · (intro w hSw; (try dsimp only at hSw); go_simp; try (with_reducible rfl))
                try simp only [List.getElem_toArray, List.getElem_cons_succ, List.getElem_cons_zero, Act.put, List.setIfInBounds_toArray, List.set_cons_zero, List.set_cons_succ]
                refine' wpAnyH_take (i := 6) (oi := _) (v := _) rfl (by kernel_rfl) (by kernel_rfl) (by kernel_rfl) (fun _ _ _ h => h) (Or.inl ⟨by kernel_rfl, ?_⟩) (by assumption) ?_
                rotate_left
                · (intro w hSw; (try dsimp only at hSw); go_simp; try (with_reducible rfl))
                try simp only [List.getElem_toArray, List.getElem_cons_succ, List.getElem_cons_zero, Act.put, List.setIfInBounds_toArray, List.set_cons_zero, List.set_cons_succ]
                refine' wpAnyH_take (i := 7) (oi := _) (v := _) rfl (by kernel_rfl) (by kernel_rfl) (by kernel_rfl) (fun _ _ _ h => h) (Or.inl ⟨by kernel_rfl, ?_⟩) (by assumption) ?_
                rotate_left
                · (intro w hSw; (try dsimp only at hSw); go_simp; try (with_reducible rfl))
                try simp only [List.getElem_toArray, List.getElem_cons_succ, List.getElem_cons_zero, Act.put, List.setIfInBounds_toArray, List.set_cons_zero, List.set_cons_succ]
                refine' wpAnyH_take (i := 8) (oi := _) (v := _) rfl (by kernel_rfl) (by kernel_rfl) (by kernel_rfl) (fun _ _ _ h => h) (Or.inl ⟨by kernel_rfl, ?_⟩) (by assumption) ?_
                rotate_left
                · (intro w hSw; (try dsimp only at hSw); go_simp; try (with_reducible rfl))
                try simp only [List.getElem_toArray, List.getElem_cons_succ, List.getElem_cons_zero, Act.put, List.setIfInBounds_toArray, List.set_cons_zero, List.set_cons_succ]
                refine' wpAnyH_take (i := 9) (oi := _) (v := _) rfl (by kernel_rfl) (by kernel_rfl) (by kernel_rfl) (fun _ _ _ h => h) (Or.inl ⟨by kernel_rfl, ?_⟩) (by assumption) ?_
                rotate_left
                · (intro w hSw; (try dsimp only at hSw); go_simp; try (with_reducible rfl))
                try simp only [List.getElem_toArray, List.getElem_cons_succ, List.getElem_cons_zero, Act.put, List.setIfInBounds_toArray, List.set_cons_zero, List.set_cons_succ]
                refine wpAnyH_ready (rs := [10, 14]) (by kernel_rfl) (by simp) ?_
                refine (AllReadyH.cons (o := _) rfl (fun k hK => ?_) (AllReadyH.cons (o := _) rfl (fun k hK => ?_) AllReadyH.nil))
                · go_simp
                  go_at_call 22
                  with_reducible refine (CA.out V1 BV1.out).mono ?_
                  rintro e X2 ⟨⟨r9, a9, n9, c9, rfl, h9⟩, DbX2⟩
                  have HA9 := hid h9
                  clear h9
                  have DX2 := hid (btr BV1.out DbX2.out)
                  have UX2 := hid (BV1.out.size)
                  (try go_wp2_with fail)
                  refine hK.out _ _ ?_ (fun hHeld => ?_)
                  · (try dsimp only); exact ⟨K1.out _ DX2.out, K2.out _ DX2.out, K4.out _ DX2.out, K5.out _ DX2.out⟩
                  clear hK k
                  try simp only [List.getElem_toArray, List.getElem_cons_succ, List.getElem_cons_zero, Act.put, List.setIfInBounds_toArray, List.set_cons_zero, List.set_cons_succ]
                  refine' wpAnyH_take (i := 11) (oi := _) (v := _) rfl (by kernel_rfl) (by kernel_rfl) (by kernel_rfl) (fun _ _ _ h => h) (Or.inl ⟨by kernel_rfl, ?_⟩) (by assumption) ?_
                  rotate_left
                  · (intro w hSw; (try dsimp only at hSw); go_simp; try (with_reducible rfl))
                  try simp only [List.getElem_toArray, List.getElem_cons_succ, List.getElem_cons_zero, Act.put, List.setIfInBounds_toArray, List.set_cons_zero, List.set_cons_succ]
                  refine' wpAnyH_take (i := 12) (oi := _) (v := _) rfl (by kernel_rfl) (by kernel_rfl) (by kernel_rfl) (fun _ _ _ h => h) (Or.inl ⟨by kernel_rfl, ?_⟩) (by assumption) ?_
                  rotate_left
                  · (intro w hSw; (try dsimp only at hSw); go_simp; try (with_reducible rfl))
                  try simp only [List.getElem_toArray, List.getElem_cons_succ, List.getElem_cons_zero, Act.put, List.setIfInBounds_toArray, List.set_cons_zero, List.set_cons_succ]
                  refine' wpAnyH_take (i := 13) (oi := _) (v := _) rfl (by kernel_rfl) (by kernel_rfl) (by kernel_rfl) (fun _ _ _ h => h) (Or.inl ⟨by kernel_rfl, ?_⟩) (by assumption) ?_
                  rotate_left
                  · (intro w hSw; (try dsimp only at hSw); go_simp; try (with_reducible rfl))
                  try simp only [List.getElem_toArray, List.getElem_cons_succ, List.getElem_cons_zero, Act.put, List.setIfInBounds_toArray, List.set_cons_zero, List.set_cons_succ]
                  refine wpAnyH_ready (rs := [14]) (by kernel_rfl) (by simp) ?_
                  refine (AllReadyH.cons (o := _) rfl (fun k hK => ?_) AllReadyH.nil)
                  go_simp
                  obtain ⟨X3, hX3⟩ : ∃ X, X2.alloc (.cells #[.bool false, .slice none 0 0] 41) = X := ⟨_, rfl⟩
                  have bX3 : Below X2.heap.size X2 X3 := by rw [← hX3]; exact ball _ _
                  have e5 := hid (HA9.out.on bX3)
                  have DX3 := hid (btr DX2.out bX3)
                  have zX3 : X3.heap[X2.heap.size]? = some (.cells #[.bool false, .slice none 0 0] 41 (0, 0)) := by rw [← hX3]; exact World.alloc_heap_new _ _
                  have yg4 := DX2.out.size
                  obtain ⟨g4, hg4⟩ : ∃ g, X2.heap.size = g := ⟨_, rfl⟩
                  rw [hg4] at zX3 yg4
                  have ZX3 := hid zX3
                  rw [hX3, hg4]
                  clear hX3 hg4 zX3 bX3
                  refine hK.out _ _ ?_ (fun hHeld => ?_)
                  · (try dsimp only); exact ⟨K1.out _ DX3.out, K2.out _ DX3.out, K4.out _ DX3.out, K5.out _ DX3.out⟩
                  clear hK k
                  try simp only [List.getElem_toArray, List.getElem_cons_succ, List.getElem_cons_zero, Act.put, List.setIfInBounds_toArray, List.set_cons_zero, List.set_cons_succ]
                  refine wpAnyH_ready (rs := [15]) (by kernel_rfl) (by simp) ?_
                  refine (AllReadyH.cons (o := _) rfl (fun k hK => ?_) AllReadyH.nil)
                  refine step_store_row (by rfl) 41 (.tmp 8) (.tmp 84) (by rfl) g4 #[.bool r9, .slice a9 n9 c9] (by rfl) (by rfl) 41 _ ZX3.out infoA2 (by rfl) (by simp [Value.oneCell']) ?_
                  obtain ⟨Y6, hY6⟩ : ∃ Y, X3.setRow g4 #[.bool r9, .slice a9 n9 c9] = Y := ⟨_, rfl⟩
                  have KY6 := hid (show Kp (fun j => j = g4) X3 Y6 from by rw [← hY6]; exact setRow_kp _ _ _)
                  have AY6 := hid (show Y6.heap[g4]? = some (.cells #[.bool r9, .slice a9 n9 c9] 41 (0, 0)) from by rw [← hY6]; exact setRow_heap X3 g4 _ _ 41 (0, 0) ZX3.out)
                  have DY6 := hid (show Below W.heap.size W Y6 from by rw [← hY6]; exact setRow_below DX3.out yg4)
                  have e7 := hid (am_dg e5.out (Dg.kp KY6.out (e := 41) (by decide) (fun g _ h => by subst h; exact ⟨_, ZX3.out⟩)))
                  rw [hY6]
                  refine hK.out _ _ ?_ (fun hHeld => ?_)
                  · (try dsimp only); exact ⟨K1.out _ DY6.out, K2.out _ DY6.out, K4.out _ DY6.out, K5.out _ DY6.out⟩
                  clear hK k hY6
                  try simp only [List.getElem_toArray, List.getElem_cons_succ, List.getElem_cons_zero, Act.put, List.setIfInBounds_toArray, List.set_cons_zero, List.set_cons_succ]
                  refine' wpAnyH_take (i := 16) (oi := _) (v := _) rfl (by kernel_rfl) (by kernel_rfl) (by kernel_rfl) (fun _ _ _ h => h) (Or.inl ⟨by kernel_rfl, ?_⟩) (by assumption) ?_
                  rotate_left
                  · (intro w hSw; (try dsimp only at hSw); go_simp; try (with_reducible rfl))
                  try simp only [List.getElem_toArray, List.getElem_cons_succ, List.getElem_cons_zero, Act.put, List.setIfInBounds_toArray, List.set_cons_zero, List.set_cons_succ]
                  refine wpAnyH_done (by kernel_rfl) ?_ _
                  exact ⟨(g4, r9, a9, n9, c9), by kernel_rfl, DY6, AY6, e7, hid yg4⟩
                · go_simp
                  obtain ⟨X8, hX8⟩ : ∃ X, V1.alloc (.cells #[.bool false, .slice none 0 0] 41) = X := ⟨_, rfl⟩
                  have bX8 : Below V1.heap.size V1 X8 := by rw [← hX8]; exact ball _ _
                  have DX8 := hid (btr BV1.out bX8)
                  have zX8 : X8.heap[V1.heap.size]? = some (.cells #[.bool false, .slice none 0 0] 41 (0, 0)) := by rw [← hX8]; exact World.alloc_heap_new _ _
                  have yg9 := BV1.out.size
                  obtain ⟨g9, hg9⟩ : ∃ g, V1.heap.size = g := ⟨_, rfl⟩
                  rw [hg9] at zX8 yg9
                  have ZX8 := hid zX8
                  rw [hX8, hg9]
                  clear hX8 hg9 zX8 bX8
                  refine hK.out _ _ ?_ (fun hHeld => ?_)
                  · (try dsimp only); exact ⟨K1.out _ DX8.out, K2.out _ DX8.out, K4.out _ DX8.out, K5.out _ DX8.out⟩
                  clear hK k
                  try simp only [List.getElem_toArray, List.getElem_cons_succ, List.getElem_cons_zero, Act.put, List.setIfInBounds_toArray, List.set_cons_zero, List.set_cons_succ]
                  refine wpAnyH_ready (rs := [10]) (by kernel_rfl) (by simp) ?_
                  refine (AllReadyH.cons (o := _) rfl (fun k hK => ?_) AllReadyH.nil)
                  go_simp
                  go_at_call 22
                  with_reducible refine (CA.out X8 DX8.out).mono ?_
                  rintro e X10 ⟨⟨r9, a9, n9, c9, rfl, h9⟩, DbX10⟩
                  have HA9 := hid h9
                  clear h9
                  have r11 := hid (row_on ZX8.out DbX10.out)
                  have DX10 := hid (btr DX8.out DbX10.out)
                  have UX10 := hid (DX8.out.size)
                  (try go_wp2_with fail)
                  refine hK.out _ _ ?_ (fun hHeld => ?_)
                  · (try dsimp only); exact ⟨K1.out _ DX10.out, K2.out _ DX10.out, K4.out _ DX10.out, K5.out _ DX10.out⟩
                  clear hK k
                  try simp only [List.getElem_toArray, List.getElem_cons_succ, List.getElem_cons_zero, Act.put, List.setIfInBounds_toArray, List.set_cons_zero, List.set_cons_succ]
                  refine' wpAnyH_take (i := 11) (oi := _) (v := _) rfl (by kernel_rfl) (by kernel_rfl) (by kernel_rfl) (fun _ _ _ h => h) (Or.inl ⟨by kernel_rfl, ?_⟩) (by assumption) ?_
                  rotate_left
                  · (intro w hSw; (try dsimp only at hSw); go_simp; try (with_reducible rfl))
                  try simp only [List.getElem_toArray, List.getElem_cons_succ, List.getElem_cons_zero, Act.put, List.setIfInBounds_toArray, List.set_cons_zero, List.set_cons_succ]
                  refine' wpAnyH_take (i := 12) (oi := _) (v := _) rfl (by kernel_rfl) (by kernel_rfl) (by kernel_rfl) (fun _ _ _ h => h) (Or.inl ⟨by kernel_rfl, ?_⟩) (by assumption) ?_
                  rotate_left
                  · (intro w hSw; (try dsimp only at hSw); go_simp; try (with_reducible rfl))
                  try simp only [List.getElem_toArray, List.getElem_cons_succ, List.getElem_cons_zero, Act.put, List.setIfInBounds_toArray, List.set_cons_zero, List.set_cons_succ]
                  refine' wpAnyH_take (i := 13) (oi := _) (v := _) rfl (by kernel_rfl) (by kernel_rfl) (by kernel_rfl) (fun _ _ _ h => h) (Or.inl ⟨by kernel_rfl, ?_⟩) (by assumption) ?_
                  rotate_left
                  · (intro w hSw; (try dsimp only at hSw); go_simp; try (with_reducible rfl))
                  try simp only [List.getElem_toArray, List.getElem_cons_succ, List.getElem_cons_zero, Act.put, List.setIfInBounds_toArray, List.set_cons_zero, List.set_cons_succ]
                  refine wpAnyH_ready (rs := [15]) (by kernel_rfl) (by simp) ?_
                  refine (AllReadyH.cons (o := _) rfl (fun k hK => ?_) AllReadyH.nil)
                  refine step_store_row (by rfl) 41 (.tmp 8) (.tmp 84) (by rfl) g9 #[.bool r9, .slice a9 n9 c9] (by rfl) (by rfl) 41 _ r11.out infoA2 (by rfl) (by simp [Value.oneCell']) ?_
                  obtain ⟨Y12, hY12⟩ : ∃ Y, X10.setRow g9 #[.bool r9, .slice a9 n9 c9] = Y := ⟨_, rfl⟩
                  have KY12 := hid (show Kp (fun j => j = g9) X10 Y12 from by rw [← hY12]; exact setRow_kp _ _ _)
                  have AY12 := hid (show Y12.heap[g9]? = some (.cells #[.bool r9, .slice a9 n9 c9] 41 (0, 0)) from by rw [← hY12]; exact setRow_heap X10 g9 _ _ 41 (0, 0) r11.out)
                  have DY12 := hid (show Below W.heap.size W Y12 from by rw [← hY12]; exact setRow_below DX10.out yg9)
                  have e13 := hid (am_dg HA9.out (Dg.kp KY12.out (e := 41) (by decide) (fun g _ h => by subst h; exact ⟨_, r11.out⟩)))
                  rw [hY12]
                  refine hK.out _ _ ?_ (fun hHeld => ?_)
                  · (try dsimp only); exact ⟨K1.out _ DY12.out, K2.out _ DY12.out, K4.out _ DY12.out, K5.out _ DY12.out⟩
                  clear hK k hY12
                  try simp only [List.getElem_toArray, List.getElem_cons_succ, List.getElem_cons_zero, Act.put, List.setIfInBounds_toArray, List.set_cons_zero, List.set_cons_succ]
                  refine' wpAnyH_take (i := 16) (oi := _) (v := _) rfl (by kernel_rfl) (by kernel_rfl) (by kernel_rfl) (fun _ _ _ h => h) (Or.inl ⟨by kernel_rfl, ?_⟩) (by assumption) ?_
                  rotate_left
                  · (intro w hSw; (try dsimp only at hSw); go_simp; try (with_reducible rfl))
                  try simp only [List.getElem_toArray, List.getElem_cons_succ, List.getElem_cons_zero, Act.put, List.setIfInBounds_toArray, List.set_cons_zero, List.set_cons_succ]
                  refine wpAnyH_done (by kernel_rfl) ?_ _
                  exact ⟨(g9, r9, a9, n9, c9), by kernel_rfl, DY12, AY12, e13, hid yg9⟩
              · rintro ⟨gx, rb, ra, rn, rc⟩ Y ⟨BY, X8, A8, L8⟩
                try simp only [List.getElem_toArray, List.getElem_cons_succ, List.getElem_cons_zero, Act.put, List.setIfInBounds_toArray, List.set_cons_zero, List.set_cons_succ]
                dsimp only at X8 A8 L8
                have BWY := hid (show Below b w Y from BbW.out.trans (BY.out.mono (by rw [← HB.out]; exact BbW.out.size)))
                have HOY := hid (own_on HOW.out BY.out)
                have HAY := hid (ams_on HAW.out BY.out)
                have x0 := row_cell X8.out 0
                have x1 := row_cell X8.out 1
                simp only [List.getElem?_toArray, List.getElem?_cons_succ, List.getElem?_cons_zero] at x0 x1
                have p1 := K1.out Y BY.out
                have p2 := K2.out Y BY.out
                have f1 := own_frz HOY.out (t * 3 + 1)
                have f2 := own_frz HOY.out (t * 3 + 2)
                rcases HER.out with e0 | e0
                · subst e0
                  go_upto_region 15 with fail
                  go_upto_region 4 with fail
                  obtain ⟨Z, hZ⟩ : ∃ Z, (Y.setCell ⟨g, t * 3 + 1, none⟩ (.bool rb)).setCell ⟨g, t * 3 + 2, none⟩ (.slice ra rn rc) = Z := ⟨_, rfl⟩
                  have KZ := hid (show Kp (fun j => j = g) Y Z from by rw [← hZ]; exact (Kp.set Y g _ _).trans (Kp.set _ g _ _) (fun g _ e => e))
                  have HOZ := hid (show Z.ownsRow b 54 3 (.slice (some ⟨g, 0, none⟩) k d) k (rcs (A ++ ⟨y1, nv, rb, ra, rn, rc⟩ :: B)) from by
                    rw [← rcs_set A B y1 ov nv yb rb yp ra yn rn yc rc, HAL.out, ← hZ]
                    exact own_setc (own_setc HOY.out _ _) _ _)
                  have HDZ := hid (show Dg Y Z from Dg.kp KZ.out (e := 54) (by decide) (fun g _ e => by subst e; exact own_ty HOY.out rfl))
                  rw [hZ]
                  clear hZ x0 x1 p1 p2 f1 f2
                  go_wp2
                  go_roundw
                  case rel =>
                    refine ⟨i + 1, k, d, some ⟨g, 0, none⟩, A ++ ⟨y1, nv, rb, ra, rn, rc⟩ :: B, upd f y1 nv, HLT.out, by go_num, rfl, hid ?_, HKI2, hid ?_, hid ?_, HOZ, hid ?_, hid ?_⟩
                    · rw [HKK.out, List.length_append, List.length_cons]; omega
                    · have := HRN.out nv HMV.out
                      unfold dmv at this ⊢
                      rw [List.map_append, List.map_cons]
                      exact this
                    · have h1 := HST.out
                      rw [if_pos rfl] at h1
                      rw [← h1]
                      exact HDU.out
                    · intro x hx
                      rcases List.mem_append.1 hx with hx | hx
                      · exact am_dg (HAY.out x (List.mem_append_left _ hx)) HDZ.out
                      · rcases List.mem_cons.1 hx with rfl | hx
                        · exact am_dg A8.out HDZ.out
                        · exact am_dg (HAY.out x (List.mem_append_right _ (List.mem_cons_of_mem _ hx))) HDZ.out
                    · exact BWY.out.trans (KZ.out.below (by rw [← HB.out]; exact BWY.out.size) (fun j hj e => by have := HGG.out.1; omega))
                  case measure => have := HLT.out; simp [intOf]; omega
                · subst e0
                  go_wp2
                  go_ret2
                  refine ⟨?_, BWY.out⟩
                  have h1 := HST.out
                  rw [if_neg (by decide)] at h1
                  have h2 := HDU.out
                  rw [← h2, show nea (⟨y1, ii, bo, so, am, bv, xp, xn, xc⟩ :: l.drop (i + 1)) = (y1, am) :: nea (l.drop (i + 1)) from rfl, h1]
                  rfl
            · have hne : (y1 != m) = true := by simpa using hem
              have HGT := hid (show m < y1 from by have := HLM.out; omega)
              have htk9 : (t : Int) < (k : Int) := by have := HTK.out; omega
              have hkd9 : k ≤ d := HCP.out.1
              obtain ⟨A, hA⟩ : ∃ A, R.take t = A := ⟨_, rfl⟩
              obtain ⟨B9, hB9⟩ : ∃ B, R.drop (t + 1) = B := ⟨_, rfl⟩
              have hsp := HSP.out
              rw [hA, hB9] at hsp
              obtain ⟨B, hB⟩ : ∃ B : List De, ⟨y1, ov, yb, yp, yn, yc⟩ :: B9 = B := ⟨_, rfl⟩
              rw [hB] at hsp
              have HAL := hid (show A.length = t from by rw [← hA]; exact HTL.out)
              have HRS := hid hsp
              have HBL := hid (show B.length = k - t from by have h1 := HK.out; rw [hsp, List.length_append] at h1; have := HAL.out; omega)
              have HTKK := hid (show t ≤ k from Nat.le_of_lt HTK.out)
              have HLE := hid (show k + 2 ≤ 1000000002 from by have := HM.out; have := HLT.out; have := HKI.out; omega)
              have HRT := hid (rel_new (f := f) (A := dmv A) (B := dmv B) (m := m) (by have h1 := HR.out; rw [hsp] at h1; unfold dmv at h1 ⊢; rw [List.map_append] at h1; exact h1) (fun x hx => by
                obtain ⟨x', hx', rfl⟩ := List.mem_map.1 hx
                exact HL.out x' (by rw [hA]; exact hx')) (fun x hx => by
                obtain ⟨x', hx', rfl⟩ := List.mem_map.1 hx
                rw [← hB] at hx'
                rcases List.mem_cons.1 hx' with rfl | hx'
                · exact HGT.out
                · have h1 := HR.out.up
                  rw [hsp, ← hB] at h1
                  unfold dmv at h1
                  rw [List.map_append, List.map_append, List.map_cons, List.map_cons, List.pairwise_append, List.pairwise_cons] at h1
                  have h2 := h1.2.1.1 x'.m (List.mem_map.2 ⟨_, List.mem_map.2 ⟨x', hx', rfl⟩, rfl⟩)
                  have h3 := HGT.out
                  exact Int.lt_trans h3 h2) HUM.out)
              have HRN := hid HRT.out.2
              have HOLD := hid (show (f m).getD 0 = 0 from by rw [HRT.out.1]; rfl)
              have HOV := hid (show wo.ownsRow b 54 3 (.slice (some ⟨g, 0, none⟩) k d) k (rcs (A ++ B)) from by rw [← HRS.out]; exact HO.out)
              have HAV := hid (show ams wo (A ++ B) from by rw [← HRS.out]; exact HA.out)
              clear hA hB hB9 hsp
              go_upto_region 8 with fail
              go_big_quiet (fail)
              obtain ⟨V1, hV1⟩ : ∃ U, V.drewN nq = U := ⟨_, rfl⟩
              have BV3 := hid (show Below wo.heap.size wo V1 from by rw [← hV1]; exact btr BV2.out (bdrew _ _))
              rw [hV1]
              clear hV1 BV2
              obtain ⟨E0, hE0⟩ : ∃ E, V1.alloc (.cells #[] 54) = E := ⟨_, rfl⟩
              obtain ⟨g0, hg0⟩ : ∃ g, V1.heap.size = g := ⟨_, rfl⟩
              have HO0 := hid (show E0.ownsRow g0 54 3 (.slice (some ⟨g0, 0, none⟩) 0 0) 0 [] from by rw [← hE0, ← hg0]; exact own_empty V1 54 3)
              have BE0 := hid (show Below wo.heap.size wo E0 from btr BV3.out (by rw [← hE0]; exact ball _ _))
              have SG0 := hid (show wo.heap.size ≤ g0 from by rw [← hg0]; exact BV3.out.size)
              have SE0 := hid (show g0 ≤ E0.heap.size from by rw [← hE0, ← hg0]; exact (ball V1 _).size)
              have HE0 := hid hE0
              have Hg0 := hid hg0
              clear hE0 hg0 BV3
              go_upto_region 10 with (rw [HE0.out, Hg0.out]; at_builtin; refine Dm.wpList_app_rd (by rfl) (.tmp 52) (.tmp 55) 48 54 _ 3 40 (by rfl) Try.underlying48 infoR3 rfl (by decide) g0 _ 0 [] (by rfl) HO0.out (some ⟨g, 0, none⟩) d t (rcs A) (by rfl) (fun e => by cases e) (by rw [rcs_len, HAL.out]) (fun ad ea j u hu => by cases ea; exact rcs_take A B _ g (own_on HOV.out BE0.out) j u hu) (rcs_one A) (by have := HLE.out; unfold maxLen; omega) (by have := HLE.out; omega) SE0.out ?_; intro v' E1 hown hgrow; obtain ⟨q1, d1, rfl⟩ := own_form hown; rw [Nat.zero_add, List.nil_append] at hown; have HO1 := hid hown; have HG1 := hid hgrow; clear hown hgrow)
              have BE1 := hid (show Below wo.heap.size wo E1 from BE0.out.grown HG1.out BE0.out.size (fun j hj => by have := (own_lo HO0.out hj).1; have := SG0.out; omega))
              have SG1 := hid (show g0 ≤ E1.heap.size from Nat.le_trans SE0.out HG1.out.size)
              have C0E := hid (show ∀ U, Below E1.heap.size E1 U → U.cell? ⟨z, off + i * 6, none⟩ = some (.int .u32 m) from fun U h => C0.out U (BW.out.trans ((btr BE1.out h).mono SB.out)))
              have CC := hid (show ∀ U : World, Calls Try.prog 28 #[.int .i64 0] U fun e w' => (∃ v, e = .returned v ∧ Dm.Am w' v 0) ∧ Below U.heap.size U w' from fun U => Dm.rcents_any 0 U (by decide) (by decide))
              obtain ⟨V14, hV14⟩ : ∃ U, E1.drew = U := ⟨_, rfl⟩
              have DV14 := hid (show Below E1.heap.size E1 V14 from by rw [← hV14]; exact bdrew1 _)
              have BV14 := hid (btr (Below.refl E1.heap.size E1) DV14.out)
              refine wp_region_held_drew (S := fun U => U.cell? ⟨z, off + i * 6, none⟩ = some (.int .u32 m)) (by kernel_rfl) ?_ (fun hHeld => ?_)
              · (try dsimp only); rw [hV14]; exact C0E.out _ BV14.out
              rw [hV14] at hHeld ⊢
              clear hV14
              refine' wpAnyH_take (i := 0) (oi := _) (v := _) rfl (by kernel_rfl) (by kernel_rfl) (by kernel_rfl) (fun _ _ _ h => h) (Or.inl ⟨by kernel_rfl, ?_⟩) (by assumption) ?_
              rotate_left
              · (intro w hSw; (try dsimp only at hSw); go_simp; try (with_reducible rfl))
              try simp only [List.getElem_toArray, List.getElem_cons_succ, List.getElem_cons_zero, Act.put, List.setIfInBounds_toArray, List.set_cons_zero, List.set_cons_succ]
              refine' wpAnyH_take (i := 1) (oi := _) (v := _) rfl (by kernel_rfl) (by kernel_rfl) (by kernel_rfl) (fun _ _ _ h => h) (Or.inl ⟨by kernel_rfl, ?_⟩) (by assumption) ?_
              rotate_left
              · (intro w hSw; (try dsimp only at hSw); go_simp; try (with_reducible rfl))
              try simp only [List.getElem_toArray, List.getElem_cons_succ, List.getElem_cons_zero, Act.put, List.setIfInBounds_toArray, List.set_cons_zero, List.set_cons_succ]
              refine' wpAnyH_take (i := 2) (oi := _) (v := _) rfl (by kernel_rfl) (by kernel_rfl) (by kernel_rfl) (fun _ _ _ h => h) (Or.inl ⟨by kernel_rfl, ?_⟩) (by assumption) ?_
              rotate_left
              · (intro w hSw; (try dsimp only at hSw); go_simp; try (with_reducible rfl))
              try simp only [List.getElem_toArray, List.getElem_cons_succ, List.getElem_cons_zero, Act.put, List.setIfInBounds_toArray, List.set_cons_zero, List.set_cons_succ]
              refine' wpAnyH_take (i := 3) (oi := _) (v := _) rfl (by kernel_rfl) (by kernel_rfl) (by kernel_rfl) (fun _ _ _ h => h) (Or.inl ⟨by kernel_rfl, ?_⟩) (by assumption) ?_
              rotate_left
              · (intro w hSw; (try dsimp only at hSw); go_simp; try (with_reducible rfl))
              try simp only [List.getElem_toArray, List.getElem_cons_succ, List.getElem_cons_zero, Act.put, List.setIfInBounds_toArray, List.set_cons_zero, List.set_cons_succ]
              refine' wpAnyH_take (i := 4) (oi := _) (v := _) rfl (by kernel_rfl) (by kernel_rfl) (by kernel_rfl) (fun _ _ _ h => h) (Or.inl ⟨by kernel_rfl, ?_⟩) (by assumption) ?_
              rotate_left
              · (intro w hSw; (try dsimp only at hSw); go_simp; try (with_reducible rfl))
              try simp only [List.getElem_toArray, List.getElem_cons_succ, List.getElem_cons_zero, Act.put, List.setIfInBounds_toArray, List.set_cons_zero, List.set_cons_succ]
              refine' wpAnyH_take (i := 5) (oi := _) (v := _) rfl (by kernel_rfl) (by kernel_rfl) (by kernel_rfl) (fun _ _ _ h => h) (Or.inl ⟨by kernel_rfl, ?_⟩) (by assumption) ?_
              rotate_left
              · (intro w hSw; (try dsimp only at hSw); go_simp; try (with_reducible rfl))
              try simp only [List.getElem_toArray, List.getElem_cons_succ, List.getElem_cons_zero, Act.put, List.setIfInBounds_toArray, List.set_cons_zero, List.set_cons_succ]
              refine wpAnyH_ready (rs := [6]) (by kernel_rfl) (by simp) ?_
              refine (AllReadyH.cons (o := _) rfl (fun K hK => ?_) AllReadyH.nil)
              go_simp
              go_at_call 28
              with_reducible refine (CC.out V14).mono ?_
              rintro e X15 ⟨⟨v0, rfl, ha0⟩, DbX15⟩
              have DX15 := hid (btr DV14.out DbX15)
              have BX15 := hid (btr BV14.out DbX15)
              obtain ⟨yb, yp, yn, yc, rfl⟩ := Dm.am_form ha0
              have HA0 := hid ha0
              clear ha0
              (try go_wp2_with fail)
              refine hK.out _ _ ?_ (fun hHeld => ?_)
              · (try dsimp only); exact C0E.out _ BX15.out
              clear hK K
              try simp only [List.getElem_toArray, List.getElem_cons_succ, List.getElem_cons_zero, Act.put, List.setIfInBounds_toArray, List.set_cons_zero, List.set_cons_succ]
              refine' wpAnyH_take (i := 7) (oi := _) (v := _) rfl (by kernel_rfl) (by kernel_rfl) (by kernel_rfl) (fun _ _ _ h => h) (Or.inl ⟨by kernel_rfl, ?_⟩) (by assumption) ?_
              rotate_left
              · (intro w hSw; (try dsimp only at hSw); go_simp; try (with_reducible rfl))
              try simp only [List.getElem_toArray, List.getElem_cons_succ, List.getElem_cons_zero, Act.put, List.setIfInBounds_toArray, List.set_cons_zero, List.set_cons_succ]
              refine wpAnyH_ready (rs := [8]) (by kernel_rfl) (by simp) ?_
              refine (AllReadyH.cons (o := _) rfl (fun K hK => ?_) AllReadyH.nil)
              go_simp
              obtain ⟨X2, hX2⟩ : ∃ X, X15.alloc (.cells #[.int .u32 m, .bool yb, .slice yp yn yc] 54) = X := ⟨_, rfl⟩
              obtain ⟨x2, hx2⟩ : ∃ x, X15.heap.size = x := ⟨_, rfl⟩
              have bX2 := hid (show Below X15.heap.size X15 X2 from by rw [← hX2]; exact ball _ _)
              have RX2 := hid (show X2.heap[x2]? = some (.cells #[.int .u32 m, .bool yb, .slice yp yn yc] 54 (0, 0)) from by rw [← hX2, ← hx2]; exact World.alloc_heap_new _ _)
              have BX2 := hid (btr BX15.out bX2.out)
              have HA2 := hid (HA0.out.on bX2.out)
              have HO2 := hid (own_on HO1.out BX2.out)
              have SX2 := hid (show g0 ≤ X2.heap.size from Nat.le_trans SG1.out BX2.out.size)
              rw [hX2, hx2]
              clear hX2 hx2
              refine hK.out _ _ ?_ (fun hHeld => ?_)
              · (try dsimp only); exact C0E.out _ BX2.out
              clear hK K
              try simp only [List.getElem_toArray, List.getElem_cons_succ, List.getElem_cons_zero, Act.put, List.setIfInBounds_toArray, List.set_cons_zero, List.set_cons_succ]
              refine wpAnyH_ready (rs := [9]) (by kernel_rfl) (by simp) ?_
              refine (AllReadyH.cons (o := _) rfl (fun K hK => ?_) AllReadyH.nil)
              refine step_app_rd (by rfl) (.tmp 57) (.tmp 65) 48 54 _ 3 40 (by rfl) Try.underlying48 infoR3 rfl (by decide) g0 _ t (rcs A) (by rfl) HO2.out ⟨x2, 0, none⟩ 1 1 [.int .u32 m, .bool yb, .slice yp yn yc] (by rfl) rfl (fun j u hu => row_rd RX2.out hu) (by simp [Value.oneCell']) (by have := HLE.out; unfold maxLen; omega) (by have := HLE.out; omega) SX2.out ?_
              intro v' E2 hown hgrow
              obtain ⟨q2, d2, rfl⟩ := own_form hown
              have HO3 := hid hown
              have HG3 := hid hgrow
              have BE2 := hid (show Below wo.heap.size wo E2 from (btr BE1.out BX2.out).grown HG3.out (btr BE1.out BX2.out).size (fun j hj => by have := (own_lo HO2.out hj).1; have := SG0.out; omega))
              have HA3 := hid (am_dg HA2.out (ownD HO2.out HG3.out (by decide)))
              clear hown hgrow
              refine hK.out _ _ ?_ (fun hHeld => ?_)
              · (try dsimp only); exact C0.out E2 (BW.out.trans (BE2.out.mono SB.out))
              clear hK K
              try simp only [List.getElem_toArray, List.getElem_cons_succ, List.getElem_cons_zero, Act.put, List.setIfInBounds_toArray, List.set_cons_zero, List.set_cons_succ]
              refine' wpAnyH_take (i := 10) (oi := _) (v := _) rfl (by kernel_rfl) (by kernel_rfl) (by kernel_rfl) (fun _ _ _ h => h) (Or.inl ⟨by kernel_rfl, ?_⟩) (by assumption) ?_
              rotate_left
              · (intro w hSw; (try dsimp only at hSw); go_simp; try (with_reducible rfl))
              try simp only [List.getElem_toArray, List.getElem_cons_succ, List.getElem_cons_zero, Act.put, List.setIfInBounds_toArray, List.set_cons_zero, List.set_cons_succ]
              refine wpAnyH_done (by kernel_rfl) ?_ _
              go_upto_region 12 with (at_builtin; refine Dm.wpList_app_rd (by rfl) (.tmp 67) (.tmp 70) 48 54 _ 3 40 (by rfl) Try.underlying48 infoR3 rfl (by decide) g0 _ (t + 1) _ (by rfl) HO3.out (some ⟨g, t * 3, none⟩) (d - t) (k - t) (rcs B) (by rfl) (fun e => by cases e) (by rw [rcs_len, HBL.out]) (fun ad ea j u hu => by cases ea; have h1 := rcs_drop A B _ g (own_on HOV.out BE2.out) j u hu; rw [HAL.out] at h1; exact h1) (rcs_one B) (by have := HLE.out; have := HTKK.out; unfold maxLen; omega) (by have := HLE.out; have := HTKK.out; omega) (Nat.le_trans SX2.out HG3.out.size) ?_; intro v' W hown hgrow; obtain ⟨q3, D, rfl⟩ := own_form hown; have HO4 := hid hown; have HG4 := hid hgrow; clear hown hgrow)
              have BWo := hid (show Below wo.heap.size wo W from BE2.out.grown HG4.out BE2.out.size (fun j hj => by have := (own_lo HO3.out hj).1; have := SG0.out; omega))
              have HA4 := hid (am_dg HA3.out (ownD HO3.out HG4.out (by decide)))
              obtain ⟨K, hK⟩ : ∃ K, t + 1 + (k - t) = K := ⟨_, rfl⟩
              have HKK := hid (show K = A.length + 1 + B.length from by rw [← hK, HAL.out, HBL.out])
              have HKI2 := hid (show K ≤ i + 1 from by have := HKI.out; have := HTKK.out; omega)
              rw [hK] at HO4
              try rw [hK]
              have HOW := hid (show W.ownsRow b 54 3 (.slice q3 K D) K (rcs (A ++ ⟨m, (0), yb, yp, yn, yc⟩ :: B)) from by
                have h1 := own_base HO4.out (Nat.le_trans SB.out SG0.out)
                rw [rcs_app, rcs_cons, ← List.append_assoc]
                exact h1)
              have HAW := hid (show ams W (A ++ ⟨m, (0), yb, yp, yn, yc⟩ :: B) from by
                intro x hx
                rcases List.mem_append.1 hx with hx | hx
                · exact (HAV.out x (List.mem_append_left _ hx)).on BWo.out
                · rcases List.mem_cons.1 hx with rfl | hx
                  · exact HA4.out
                  · exact (HAV.out x (List.mem_append_right _ hx)).on BWo.out)
              clear HO4 HA4 HO3 HG4 HG3 HA3 HO2 HA2 hK
              obtain ⟨G, hG, hGb, hGW⟩ := own_some HOW.out (by have := HKK.out; omega)
              subst hG
              have HGG := hid (And.intro hGb hGW)
              have BbW := hid (show Below b w W from BW.out.trans (BWo.out.mono SB.out))
              have HCW := hid (own_cap HOW.out)
              have K1 := hid (show ∀ U, Below W.heap.size W U → U.cell? ⟨G, t * 3 + 1, none⟩ = some (.bool yb) from fun U h => (h.cell (p := ⟨G, t * 3 + 1, none⟩) HGG.out.2).trans (by
                have h1 := (Dm.own_cells HOW.out).2 (A.length * 3 + 1) (.bool yb) (rcs_at A B _ 1 (by decide))
                rw [Addr.add_lit, Nat.zero_add, HAL.out] at h1
                exact h1))
              have K2 := hid (show ∀ U, Below W.heap.size W U → U.cell? ⟨G, t * 3 + 2, none⟩ = some (.slice yp yn yc) from fun U h => (h.cell (p := ⟨G, t * 3 + 2, none⟩) HGG.out.2).trans (by
                have h1 := (Dm.own_cells HOW.out).2 (A.length * 3 + 2) (.slice yp yn yc) (rcs_at A B _ 2 (by decide))
                rw [Addr.add_lit, Nat.zero_add, HAL.out] at h1
                exact h1))
              have K4 := hid (show ∀ U, Below W.heap.size W U → U.cell? ⟨z, off + i * 6 + 4, none⟩ = some (.bool bv) from fun U h => C4.out U (BbW.out.trans (h.mono (by rw [← HB.out]; exact BbW.out.size))))
              have K5 := hid (show ∀ U, Below W.heap.size W U → U.cell? ⟨z, off + i * 6 + 5, none⟩ = some (.slice xp xn xc) from fun U h => C5.out U (BbW.out.trans (h.mono (by rw [← HB.out]; exact BbW.out.size))))
              have AY := hid (show Dm.Am W (.agg #[.bool yb, .slice yp yn yc]) (0) from HAW.out ⟨m, (0), yb, yp, yn, yc⟩ (by simp))
              have HOVA := hid (show Amt (0) from by
                rw [← HOLD.out]
                cases e : f m with
                | none => exact ⟨by decide, by decide⟩
                | some v => exact (HR.out.ok (m, v) ((HR.out.iff m v HUM.out).1 e)).2)
              have CA := hid (show ∀ U, Below W.heap.size W U → Calls Try.prog 22 #[.agg #[.bool yb, .slice yp yn yc], .agg #[.bool bv, .slice xp xn xc]] U fun e w' => Dm.Ans w' e (maddV (0) am) (maddE (0) am) ∧ Hid (Below U.heap.size U w') from fun U h => Dm.radd_any _ _ (0) am U (AY.out.on h) (AX.out U (BbW.out.trans (h.mono (by rw [← HB.out]; exact BbW.out.size)))) HOVA.out HAMT.out)
              have HMV := hid (madd_amt (0) am)
              have HST := hid (show dues f ((m, am) :: nea (l.drop (i + 1))) = if maddE (0) am = 0 then dues (upd f m (maddV (0) am)) (nea (l.drop (i + 1))) else none from by rw [dues, HOLD.out])
              obtain ⟨er, her⟩ : ∃ x, maddE (0) am = x := ⟨_, rfl⟩
              obtain ⟨nv, hnv⟩ : ∃ x, maddV (0) am = x := ⟨_, rfl⟩
              have HER := hid (show er = 0 ∨ er = 10 from by rw [← her]; exact maddE_or _ _)
              rw [her, hnv] at CA HST
              rw [hnv] at HMV
              have t1 : (t : Int) < (K : Int) := by have := HKK.out; have := HAL.out; omega
              clear her hnv hGb hGW
              go_upto_region 12 with fail
              refine reg_cut (X := Nat × Bool × Option Addr × Nat × Nat) (fun a T9 => ((((((((((((((((a.put (some 73) (.slice (some ⟨G, 0, none⟩) K D)).put (some 74) (.int .i64 t)).put (some 75) (.pointer (some ⟨G, t * 3, none⟩))).put (some 76) (.pointer (some ⟨G, t * 3 + 1, none⟩))).put (some 77) (.agg #[.bool yb, .slice yp yn yc])).put (some 78) (.slice (some ⟨z, off, none⟩) n c)).put (some 79) (.int .i64 i)).put (some 80) (.pointer (some ⟨z, off + i * 6, none⟩))).put (some 81) (.pointer (some ⟨z, off + i * 6 + 4, none⟩))).put (some 82) (.agg #[.bool bv, .slice xp xn xc])).put (some 83) (.tuple #[.agg #[.bool T9.2.1, .slice T9.2.2.1 T9.2.2.2.1 T9.2.2.2.2], .int .i64 er])).put (some 72) (.tuple #[.agg #[.bool T9.2.1, .slice T9.2.2.1 T9.2.2.2.1 T9.2.2.2.2], .int .i64 er])).put (some 84) (.agg #[.bool T9.2.1, .slice T9.2.2.1 T9.2.2.2.1 T9.2.2.2.2])).put (some 85) (.int .i64 er)).put (some 8) (.pointer (some ⟨T9.1, 0, none⟩))).put (some 9) (.int .i64 er))) (fun T9 V9 => Hid (Below W.heap.size W V9) ∧ Hid (V9.heap[T9.1]? = some (.cells #[.bool T9.2.1, .slice T9.2.2.1 T9.2.2.2.1 T9.2.2.2.2] 41 (0, 0))) ∧ Hid (Dm.Am V9 (.agg #[.bool T9.2.1, .slice T9.2.2.1 T9.2.2.2.1 T9.2.2.2.2]) nv) ∧ Hid (W.heap.size ≤ T9.1)) ?_ ?_
              · obtain ⟨V1, hV1⟩ : ∃ U, W.drew = U := ⟨_, rfl⟩
                have BV1 := hid (show Below W.heap.size W V1 from by rw [← hV1]; exact bdrew1 _)
                refine wp_region_held_drew (S := (fun U => U.cell? ⟨G, t * 3 + 1, none⟩ = some (.bool yb) ∧ U.cell? ⟨G, t * 3 + 2, none⟩ = some (.slice yp yn yc) ∧ U.cell? ⟨z, off + i * 6 + 4, none⟩ = some (.bool bv) ∧ U.cell? ⟨z, off + i * 6 + 5, none⟩ = some (.slice xp xn xc))) (by kernel_rfl) ?_ (fun hHeld => ?_)
                · (try dsimp only); rw [hV1]; exact ⟨K1.out _ BV1.out, K2.out _ BV1.out, K4.out _ BV1.out, K5.out _ BV1.out⟩
                rw [hV1] at hHeld ⊢
                clear hV1
                refine' wpAnyH_take (i := 0) (oi := _) (v := _) rfl (by kernel_rfl) (by kernel_rfl) (by kernel_rfl) (fun _ _ _ h => h) (Or.inl ⟨by kernel_rfl, ?_⟩) (by assumption) ?_
                rotate_left
                · (intro w hSw; (try dsimp only at hSw); go_simp; try (with_reducible rfl))
                try simp only [List.getElem_toArray, List.getElem_cons_succ, List.getElem_cons_zero, Act.put, List.setIfInBounds_toArray, List.set_cons_zero, List.set_cons_succ]
                refine' wpAnyH_take (i := 1) (oi := _) (v := _) rfl (by kernel_rfl) (by kernel_rfl) (by kernel_rfl) (fun _ _ _ h => h) (Or.inl ⟨by kernel_rfl, ?_⟩) (by assumption) ?_
                rotate_left
                · (intro w hSw; (try dsimp only at hSw); go_simp; try (with_reducible rfl))
                try simp only [List.getElem_toArray, List.getElem_cons_succ, List.getElem_cons_zero, Act.put, List.setIfInBounds_toArray, List.set_cons_zero, List.set_cons_succ]
                refine' wpAnyH_take (i := 2) (oi := _) (v := _) rfl (by kernel_rfl) (by kernel_rfl) (by kernel_rfl) (fun _ _ _ h => h) (Or.inl ⟨by kernel_rfl, ?_⟩) (by assumption) ?_
                rotate_left
                · (intro w hSw; (try dsimp only at hSw); go_simp; try (with_reducible rfl))
                try simp only [List.getElem_toArray, List.getElem_cons_succ, List.getElem_cons_zero, Act.put, List.setIfInBounds_toArray, List.set_cons_zero, List.set_cons_succ]
                refine' wpAnyH_take (i := 3) (oi := _) (v := _) rfl (by kernel_rfl) (by kernel_rfl) (by kernel_rfl) (fun _ _ _ h => h) (Or.inl ⟨by kernel_rfl, ?_⟩) (by assumption) ?_
                rotate_left
                · (intro w hSw; (try dsimp only at hSw); go_simp; try (with_reducible rfl))
                try simp only [List.getElem_toArray, List.getElem_cons_succ, List.getElem_cons_zero, Act.put, List.setIfInBounds_toArray, List.set_cons_zero, List.set_cons_succ]
                refine' wpAnyH_take (i := 4) (oi := _) (v := _) rfl (by kernel_rfl) (by kernel_rfl) (by kernel_rfl) (fun _ _ _ h => h) (Or.inl ⟨by kernel_rfl, ?_⟩) (by assumption) ?_
                rotate_left
                · (intro w hSw; (try dsimp only at hSw); go_simp; try (with_reducible rfl))
                try simp only [List.getElem_toArray, List.getElem_cons_succ, List.getElem_cons_zero, Act.put, List.setIfInBounds_toArray, List.set_cons_zero, List.set_cons_succ]
                refine' wpAnyH_take (i := 5) (oi := _) (v := _) rfl (by kernel_rfl) (by kernel_rfl) (by kernel_rfl) (fun _ _ _ h => h) (Or.inl ⟨by kernel_rfl, ?_⟩) (by assumption) ?_
                rotate_left
                · (intro w hSw; (try dsimp only at hSw); go_simp; try (with_reducible rfl))
                try simp only [List.getElem_toArray, List.getElem_cons_succ, List.getElem_cons_zero, Act.put, List.setIfInBounds_toArray, List.set_cons_zero, List.set_cons_succ]
                refine' wpAnyH_take (i := 6) (oi := _) (v := _) rfl (by kernel_rfl) (by kernel_rfl) (by kernel_rfl) (fun _ _ _ h => h) (Or.inl ⟨by kernel_rfl, ?_⟩) (by assumption) ?_
                rotate_left
                · (intro w hSw; (try dsimp only at hSw); go_simp; try (with_reducible rfl))
                try simp only [List.getElem_toArray, List.getElem_cons_succ, List.getElem_cons_zero, Act.put, List.setIfInBounds_toArray, List.set_cons_zero, List.set_cons_succ]
                refine' wpAnyH_take (i := 7) (oi := _) (v := _) rfl (by kernel_rfl) (by kernel_rfl) (by kernel_rfl) (fun _ _ _ h => h) (Or.inl ⟨by kernel_rfl, ?_⟩) (by assumption) ?_
                rotate_left
                · (intro w hSw; (try dsimp only at hSw); go_simp; try (with_reducible rfl))
                try simp only [List.getElem_toArray, List.getElem_cons_succ, List.getElem_cons_zero, Act.put, List.setIfInBounds_toArray, List.set_cons_zero, List.set_cons_succ]
                refine' wpAnyH_take (i := 8) (oi := _) (v := _) rfl (by kernel_rfl) (by kernel_rfl) (by kernel_rfl) (fun _ _ _ h => h) (Or.inl ⟨by kernel_rfl, ?_⟩) (by assumption) ?_
                rotate_left
                · (intro w hSw; (try dsimp only at hSw); go_simp; try (with_reducible rfl))
                try simp only [List.getElem_toArray, List.getElem_cons_succ, List.getElem_cons_zero, Act.put, List.setIfInBounds_toArray, List.set_cons_zero, List.set_cons_succ]
                refine' wpAnyH_take (i := 9) (oi := _) (v := _) rfl (by kernel_rfl) (by kernel_rfl) (by kernel_rfl) (fun _ _ _ h => h) (Or.inl ⟨by kernel_rfl, ?_⟩) (by assumption) ?_
                rotate_left
                · (intro w hSw; (try dsimp only at hSw); go_simp; try (with_reducible rfl))
                try simp only [List.getElem_toArray, List.getElem_cons_succ, List.getElem_cons_zero, Act.put, List.setIfInBounds_toArray, List.set_cons_zero, List.set_cons_succ]
                refine wpAnyH_ready (rs := [10, 14]) (by kernel_rfl) (by simp) ?_
                refine (AllReadyH.cons (o := _) rfl (fun K hK => ?_) (AllReadyH.cons (o := _) rfl (fun K hK => ?_) AllReadyH.nil))
                · go_simp
                  go_at_call 22
                  with_reducible refine (CA.out V1 BV1.out).mono ?_
                  rintro e X2 ⟨⟨r9, a9, n9, c9, rfl, h9⟩, DbX2⟩
                  have HA9 := hid h9
                  clear h9
                  have DX2 := hid (btr BV1.out DbX2.out)
                  have UX2 := hid (BV1.out.size)
                  (try go_wp2_with fail)
                  refine hK.out _ _ ?_ (fun hHeld => ?_)
                  · (try dsimp only); exact ⟨K1.out _ DX2.out, K2.out _ DX2.out, K4.out _ DX2.out, K5.out _ DX2.out⟩
                  clear hK K
                  try simp only [List.getElem_toArray, List.getElem_cons_succ, List.getElem_cons_zero, Act.put, List.setIfInBounds_toArray, List.set_cons_zero, List.set_cons_succ]
                  refine' wpAnyH_take (i := 11) (oi := _) (v := _) rfl (by kernel_rfl) (by kernel_rfl) (by kernel_rfl) (fun _ _ _ h => h) (Or.inl ⟨by kernel_rfl, ?_⟩) (by assumption) ?_
                  rotate_left
                  · (intro w hSw; (try dsimp only at hSw); go_simp; try (with_reducible rfl))
                  try simp only [List.getElem_toArray, List.getElem_cons_succ, List.getElem_cons_zero, Act.put, List.setIfInBounds_toArray, List.set_cons_zero, List.set_cons_succ]
                  refine' wpAnyH_take (i := 12) (oi := _) (v := _) rfl (by kernel_rfl) (by kernel_rfl) (by kernel_rfl) (fun _ _ _ h => h) (Or.inl ⟨by kernel_rfl, ?_⟩) (by assumption) ?_
                  rotate_left
                  · (intro w hSw; (try dsimp only at hSw); go_simp; try (with_reducible rfl))
                  try simp only [List.getElem_toArray, List.getElem_cons_succ, List.getElem_cons_zero, Act.put, List.setIfInBounds_toArray, List.set_cons_zero, List.set_cons_succ]
                  refine' wpAnyH_take (i := 13) (oi := _) (v := _) rfl (by kernel_rfl) (by kernel_rfl) (by kernel_rfl) (fun _ _ _ h => h) (Or.inl ⟨by kernel_rfl, ?_⟩) (by assumption) ?_
                  rotate_left
                  · (intro w hSw; (try dsimp only at hSw); go_simp; try (with_reducible rfl))
                  try simp only [List.getElem_toArray, List.getElem_cons_succ, List.getElem_cons_zero, Act.put, List.setIfInBounds_toArray, List.set_cons_zero, List.set_cons_succ]
                  refine wpAnyH_ready (rs := [14]) (by kernel_rfl) (by simp) ?_
                  refine (AllReadyH.cons (o := _) rfl (fun K hK => ?_) AllReadyH.nil)
                  go_simp
                  obtain ⟨X3, hX3⟩ : ∃ X, X2.alloc (.cells #[.bool false, .slice none 0 0] 41) = X := ⟨_, rfl⟩
                  have bX3 : Below X2.heap.size X2 X3 := by rw [← hX3]; exact ball _ _
                  have e5 := hid (HA9.out.on bX3)
                  have DX3 := hid (btr DX2.out bX3)
                  have zX3 : X3.heap[X2.heap.size]? = some (.cells #[.bool false, .slice none 0 0] 41 (0, 0)) := by rw [← hX3]; exact World.alloc_heap_new _ _
                  have yg4 := DX2.out.size
                  obtain ⟨g4, hg4⟩ : ∃ g, X2.heap.size = g := ⟨_, rfl⟩
                  rw [hg4] at zX3 yg4
                  have ZX3 := hid zX3
                  rw [hX3, hg4]
                  clear hX3 hg4 zX3 bX3
                  refine hK.out _ _ ?_ (fun hHeld => ?_)
                  · (try dsimp only); exact ⟨K1.out _ DX3.out, K2.out _ DX3.out, K4.out _ DX3.out, K5.out _ DX3.out⟩
                  clear hK K
                  try simp only [List.getElem_toArray, List.getElem_cons_succ, List.getElem_cons_zero, Act.put, List.setIfInBounds_toArray, List.set_cons_zero, List.set_cons_succ]
                  refine wpAnyH_ready (rs := [15]) (by kernel_rfl) (by simp) ?_
                  refine (AllReadyH.cons (o := _) rfl (fun K hK => ?_) AllReadyH.nil)
                  refine step_store_row (by rfl) 41 (.tmp 8) (.tmp 84) (by rfl) g4 #[.bool r9, .slice a9 n9 c9] (by rfl) (by rfl) 41 _ ZX3.out infoA2 (by rfl) (by simp [Value.oneCell']) ?_
                  obtain ⟨Y6, hY6⟩ : ∃ Y, X3.setRow g4 #[.bool r9, .slice a9 n9 c9] = Y := ⟨_, rfl⟩
                  have KY6 := hid (show Kp (fun j => j = g4) X3 Y6 from by rw [← hY6]; exact setRow_kp _ _ _)
                  have AY6 := hid (show Y6.heap[g4]? = some (.cells #[.bool r9, .slice a9 n9 c9] 41 (0, 0)) from by rw [← hY6]; exact setRow_heap X3 g4 _ _ 41 (0, 0) ZX3.out)
                  have DY6 := hid (show Below W.heap.size W Y6 from by rw [← hY6]; exact setRow_below DX3.out yg4)
                  have e7 := hid (am_dg e5.out (Dg.kp KY6.out (e := 41) (by decide) (fun g _ h => by subst h; exact ⟨_, ZX3.out⟩)))
                  rw [hY6]
                  refine hK.out _ _ ?_ (fun hHeld => ?_)
                  · (try dsimp only); exact ⟨K1.out _ DY6.out, K2.out _ DY6.out, K4.out _ DY6.out, K5.out _ DY6.out⟩
                  clear hK K hY6
                  try simp only [List.getElem_toArray, List.getElem_cons_succ, List.getElem_cons_zero, Act.put, List.setIfInBounds_toArray, List.set_cons_zero, List.set_cons_succ]
                  refine' wpAnyH_take (i := 16) (oi := _) (v := _) rfl (by kernel_rfl) (by kernel_rfl) (by kernel_rfl) (fun _ _ _ h => h) (Or.inl ⟨by kernel_rfl, ?_⟩) (by assumption) ?_
                  rotate_left
                  · (intro w hSw; (try dsimp only at hSw); go_simp; try (with_reducible rfl))
                  try simp only [List.getElem_toArray, List.getElem_cons_succ, List.getElem_cons_zero, Act.put, List.setIfInBounds_toArray, List.set_cons_zero, List.set_cons_succ]
                  refine wpAnyH_done (by kernel_rfl) ?_ _
                  exact ⟨(g4, r9, a9, n9, c9), by kernel_rfl, DY6, AY6, e7, hid yg4⟩
                · go_simp
                  obtain ⟨X8, hX8⟩ : ∃ X, V1.alloc (.cells #[.bool false, .slice none 0 0] 41) = X := ⟨_, rfl⟩
                  have bX8 : Below V1.heap.size V1 X8 := by rw [← hX8]; exact ball _ _
                  have DX8 := hid (btr BV1.out bX8)
                  have zX8 : X8.heap[V1.heap.size]? = some (.cells #[.bool false, .slice none 0 0] 41 (0, 0)) := by rw [← hX8]; exact World.alloc_heap_new _ _
                  have yg9 := BV1.out.size
                  obtain ⟨g9, hg9⟩ : ∃ g, V1.heap.size = g := ⟨_, rfl⟩
                  rw [hg9] at zX8 yg9
                  have ZX8 := hid zX8
                  rw [hX8, hg9]
                  clear hX8 hg9 zX8 bX8
                  refine hK.out _ _ ?_ (fun hHeld => ?_)
                  · (try dsimp only); exact ⟨K1.out _ DX8.out, K2.out _ DX8.out, K4.out _ DX8.out, K5.out _ DX8.out⟩
                  clear hK K
                  try simp only [List.getElem_toArray, List.getElem_cons_succ, List.getElem_cons_zero, Act.put, List.setIfInBounds_toArray, List.set_cons_zero, List.set_cons_succ]
                  refine wpAnyH_ready (rs := [10]) (by kernel_rfl) (by simp) ?_
                  refine (AllReadyH.cons (o := _) rfl (fun K hK => ?_) AllReadyH.nil)
                  go_simp
                  go_at_call 22
                  with_reducible refine (CA.out X8 DX8.out).mono ?_
                  rintro e X10 ⟨⟨r9, a9, n9, c9, rfl, h9⟩, DbX10⟩
                  have HA9 := hid h9
                  clear h9
                  have r11 := hid (row_on ZX8.out DbX10.out)
                  have DX10 := hid (btr DX8.out DbX10.out)
                  have UX10 := hid (DX8.out.size)
                  (try go_wp2_with fail)
                  refine hK.out _ _ ?_ (fun hHeld => ?_)
                  · (try dsimp only); exact ⟨K1.out _ DX10.out, K2.out _ DX10.out, K4.out _ DX10.out, K5.out _ DX10.out⟩
                  clear hK K
                  try simp only [List.getElem_toArray, List.getElem_cons_succ, List.getElem_cons_zero, Act.put, List.setIfInBounds_toArray, List.set_cons_zero, List.set_cons_succ]
                  refine' wpAnyH_take (i := 11) (oi := _) (v := _) rfl (by kernel_rfl) (by kernel_rfl) (by kernel_rfl) (fun _ _ _ h => h) (Or.inl ⟨by kernel_rfl, ?_⟩) (by assumption) ?_
                  rotate_left
                  · (intro w hSw; (try dsimp only at hSw); go_simp; try (with_reducible rfl))
                  try simp only [List.getElem_toArray, List.getElem_cons_succ, List.getElem_cons_zero, Act.put, List.setIfInBounds_toArray, List.set_cons_zero, List.set_cons_succ]
                  refine' wpAnyH_take (i := 12) (oi := _) (v := _) rfl (by kernel_rfl) (by kernel_rfl) (by kernel_rfl) (fun _ _ _ h => h) (Or.inl ⟨by kernel_rfl, ?_⟩) (by assumption) ?_
                  rotate_left
                  · (intro w hSw; (try dsimp only at hSw); go_simp; try (with_reducible rfl))
                  try simp only [List.getElem_toArray, List.getElem_cons_succ, List.getElem_cons_zero, Act.put, List.setIfInBounds_toArray, List.set_cons_zero, List.set_cons_succ]
                  refine' wpAnyH_take (i := 13) (oi := _) (v := _) rfl (by kernel_rfl) (by kernel_rfl) (by kernel_rfl) (fun _ _ _ h => h) (Or.inl ⟨by kernel_rfl, ?_⟩) (by assumption) ?_
                  rotate_left
                  · (intro w hSw; (try dsimp only at hSw); go_simp; try (with_reducible rfl))
                  try simp only [List.getElem_toArray, List.getElem_cons_succ, List.getElem_cons_zero, Act.put, List.setIfInBounds_toArray, List.set_cons_zero, List.set_cons_succ]
                  refine wpAnyH_ready (rs := [15]) (by kernel_rfl) (by simp) ?_
                  refine (AllReadyH.cons (o := _) rfl (fun K hK => ?_) AllReadyH.nil)
                  refine step_store_row (by rfl) 41 (.tmp 8) (.tmp 84) (by rfl) g9 #[.bool r9, .slice a9 n9 c9] (by rfl) (by rfl) 41 _ r11.out infoA2 (by rfl) (by simp [Value.oneCell']) ?_
                  obtain ⟨Y12, hY12⟩ : ∃ Y, X10.setRow g9 #[.bool r9, .slice a9 n9 c9] = Y := ⟨_, rfl⟩
                  have KY12 := hid (show Kp (fun j => j = g9) X10 Y12 from by rw [← hY12]; exact setRow_kp _ _ _)
                  have AY12 := hid (show Y12.heap[g9]? = some (.cells #[.bool r9, .slice a9 n9 c9] 41 (0, 0)) from by rw [← hY12]; exact setRow_heap X10 g9 _ _ 41 (0, 0) r11.out)
                  have DY12 := hid (show Below W.heap.size W Y12 from by rw [← hY12]; exact setRow_below DX10.out yg9)
                  have e13 := hid (am_dg HA9.out (Dg.kp KY12.out (e := 41) (by decide) (fun g _ h => by subst h; exact ⟨_, r11.out⟩)))
                  rw [hY12]
                  refine hK.out _ _ ?_ (fun hHeld => ?_)
                  · (try dsimp only); exact ⟨K1.out _ DY12.out, K2.out _ DY12.out, K4.out _ DY12.out, K5.out _ DY12.out⟩
                  clear hK K hY12
                  try simp only [List.getElem_toArray, List.getElem_cons_succ, List.getElem_cons_zero, Act.put, List.setIfInBounds_toArray, List.set_cons_zero, List.set_cons_succ]
                  refine' wpAnyH_take (i := 16) (oi := _) (v := _) rfl (by kernel_rfl) (by kernel_rfl) (by kernel_rfl) (fun _ _ _ h => h) (Or.inl ⟨by kernel_rfl, ?_⟩) (by assumption) ?_
                  rotate_left
                  · (intro w hSw; (try dsimp only at hSw); go_simp; try (with_reducible rfl))
                  try simp only [List.getElem_toArray, List.getElem_cons_succ, List.getElem_cons_zero, Act.put, List.setIfInBounds_toArray, List.set_cons_zero, List.set_cons_succ]
                  refine wpAnyH_done (by kernel_rfl) ?_ _
                  exact ⟨(g9, r9, a9, n9, c9), by kernel_rfl, DY12, AY12, e13, hid yg9⟩
              · rintro ⟨gx, rb, ra, rn, rc⟩ Y ⟨BY, X8, A8, L8⟩
                try simp only [List.getElem_toArray, List.getElem_cons_succ, List.getElem_cons_zero, Act.put, List.setIfInBounds_toArray, List.set_cons_zero, List.set_cons_succ]
                dsimp only at X8 A8 L8
                have BWY := hid (show Below b w Y from BbW.out.trans (BY.out.mono (by rw [← HB.out]; exact BbW.out.size)))
                have HOY := hid (own_on HOW.out BY.out)
                have HAY := hid (ams_on HAW.out BY.out)
                have x0 := row_cell X8.out 0
                have x1 := row_cell X8.out 1
                simp only [List.getElem?_toArray, List.getElem?_cons_succ, List.getElem?_cons_zero] at x0 x1
                have p1 := K1.out Y BY.out
                have p2 := K2.out Y BY.out
                have f1 := own_frz HOY.out (t * 3 + 1)
                have f2 := own_frz HOY.out (t * 3 + 2)
                rcases HER.out with e0 | e0
                · subst e0
                  go_upto_region 15 with fail
                  go_upto_region 4 with fail
                  obtain ⟨Z, hZ⟩ : ∃ Z, (Y.setCell ⟨G, t * 3 + 1, none⟩ (.bool rb)).setCell ⟨G, t * 3 + 2, none⟩ (.slice ra rn rc) = Z := ⟨_, rfl⟩
                  have KZ := hid (show Kp (fun j => j = G) Y Z from by rw [← hZ]; exact (Kp.set Y G _ _).trans (Kp.set _ G _ _) (fun g _ e => e))
                  have HOZ := hid (show Z.ownsRow b 54 3 (.slice (some ⟨G, 0, none⟩) K D) K (rcs (A ++ ⟨m, nv, rb, ra, rn, rc⟩ :: B)) from by
                    rw [← rcs_set A B m (0) nv yb rb yp ra yn rn yc rc, HAL.out, ← hZ]
                    exact own_setc (own_setc HOY.out _ _) _ _)
                  have HDZ := hid (show Dg Y Z from Dg.kp KZ.out (e := 54) (by decide) (fun g _ e => by subst e; exact own_ty HOY.out rfl))
                  rw [hZ]
                  clear hZ x0 x1 p1 p2 f1 f2
                  go_wp2
                  go_roundw
                  case rel =>
                    refine ⟨i + 1, K, D, some ⟨G, 0, none⟩, A ++ ⟨m, nv, rb, ra, rn, rc⟩ :: B, upd f m nv, HLT.out, by go_num, rfl, hid ?_, HKI2, hid ?_, hid ?_, HOZ, hid ?_, hid ?_⟩
                    · rw [HKK.out, List.length_append, List.length_cons]; omega
                    · have := HRN.out nv HMV.out
                      unfold dmv at this ⊢
                      rw [List.map_append, List.map_cons]
                      exact this
                    · have h1 := HST.out
                      rw [if_pos rfl] at h1
                      rw [← h1]
                      exact HDU.out
                    · intro x hx
                      rcases List.mem_append.1 hx with hx | hx
                      · exact am_dg (HAY.out x (List.mem_append_left _ hx)) HDZ.out
                      · rcases List.mem_cons.1 hx with rfl | hx
                        · exact am_dg A8.out HDZ.out
                        · exact am_dg (HAY.out x (List.mem_append_right _ (List.mem_cons_of_mem _ hx))) HDZ.out
                    · exact BWY.out.trans (KZ.out.below (by rw [← HB.out]; exact BWY.out.size) (fun j hj e => by have := HGG.out.1; omega))
                  case measure => have := HLT.out; simp [intOf]; omega
                · subst e0
                  go_wp2
                  go_ret2
                  refine ⟨?_, BWY.out⟩
                  have h1 := HST.out
                  rw [if_neg (by decide)] at h1
                  have h2 := HDU.out
                  rw [← h2, show nea (⟨m, ii, bo, so, am, bv, xp, xn, xc⟩ :: l.drop (i + 1)) = (m, am) :: nea (l.drop (i + 1)) from rfl, h1]
                  rfl
        · obtain rfl : t = k := by omega
          have HAL := hid HK.out
          have HLE := hid (show t + 2 ≤ 1000000002 from by have := HM.out; have := HLT.out; have := HKI.out; omega)
          have HTKK := hid (Nat.le_refl t)
          have HRT := hid (rel_new (f := f) (A := dmv R) (B := dmv []) (m := m) (by have h1 := HR.out; rw [show dmv ([] : List De) = [] from rfl, List.append_nil]; exact h1) (fun x hx => by
            obtain ⟨x', hx', rfl⟩ := List.mem_map.1 hx
            exact HL.out x' (by rw [List.take_of_length_le (by rw [HK.out]; exact Nat.le_refl _)]; exact hx')) (fun x hx => (by cases hx)) HUM.out)
          have HRN := hid HRT.out.2
          have HOLD := hid (show (f m).getD 0 = 0 from by rw [HRT.out.1]; rfl)
          have HBL := hid (show ([] : List De).length = 0 from rfl)
          have HOV := hid (show wo.ownsRow b 54 3 (.slice q t d) t (rcs (R ++ [])) from by rw [List.append_nil]; exact HO.out)
          have HAV := hid (show ams wo (R ++ []) from by rw [List.append_nil]; exact HA.out)
          have tk : ((t : Int) == (t : Int)) = true := by simp
          have kc9 : t ≤ d := HCP.out.1
          cases q with
          | none =>
            have HN0 := hid (HCP.out.2.2 rfl).1
            obtain rfl : t = d := by have := HCP.out.2.2 rfl; omega
            go_upto_region 6 with fail
            go_big_quiet (fail)
            obtain ⟨V, hV⟩ : ∃ V, wr.drewN nq = V := ⟨_, rfl⟩
            have BV2 := hid (show Below wo.heap.size wo V from by rw [← hV]; exact btr BV.out (bdrew _ _))
            rw [hV]
            clear hV BV BWV c0
            go_upto_region 8 with fail
            go_big_quiet (fail)
            obtain ⟨V1, hV1⟩ : ∃ U, V.drewN nq = U := ⟨_, rfl⟩
            have BV3 := hid (show Below wo.heap.size wo V1 from by rw [← hV1]; exact btr BV2.out (bdrew _ _))
            rw [hV1]
            clear hV1 BV2
            obtain ⟨E0, hE0⟩ : ∃ E, V1.alloc (.cells #[] 54) = E := ⟨_, rfl⟩
            obtain ⟨g0, hg0⟩ : ∃ g, V1.heap.size = g := ⟨_, rfl⟩
            have HO0 := hid (show E0.ownsRow g0 54 3 (.slice (some ⟨g0, 0, none⟩) 0 0) 0 [] from by rw [← hE0, ← hg0]; exact own_empty V1 54 3)
            have BE0 := hid (show Below wo.heap.size wo E0 from btr BV3.out (by rw [← hE0]; exact ball _ _))
            have SG0 := hid (show wo.heap.size ≤ g0 from by rw [← hg0]; exact BV3.out.size)
            have SE0 := hid (show g0 ≤ E0.heap.size from by rw [← hE0, ← hg0]; exact (ball V1 _).size)
            have HE0 := hid hE0
            have Hg0 := hid hg0
            clear hE0 hg0 BV3
            go_upto_region 10 with (rw [HE0.out, Hg0.out]; at_builtin; refine Dm.wpList_app_rd (by rfl) (.tmp 52) (.tmp 55) 48 54 _ 3 40 (by rfl) Try.underlying48 infoR3 rfl (by decide) g0 _ 0 [] (by rfl) HO0.out none t t (rcs R) (by rfl) (fun _ => ⟨HN0.out, HN0.out⟩) (by rw [rcs_len, HAL.out]) (fun ad ea => by cases ea) (rcs_one R) (by have := HLE.out; unfold maxLen; omega) (by have := HLE.out; omega) SE0.out ?_; intro v' E1 hown hgrow; obtain ⟨q1, d1, rfl⟩ := own_form hown; rw [Nat.zero_add, List.nil_append] at hown; have HO1 := hid hown; have HG1 := hid hgrow; clear hown hgrow)
            have BE1 := hid (show Below wo.heap.size wo E1 from BE0.out.grown HG1.out BE0.out.size (fun j hj => by have := (own_lo HO0.out hj).1; have := SG0.out; omega))
            have SG1 := hid (show g0 ≤ E1.heap.size from Nat.le_trans SE0.out HG1.out.size)
            have C0E := hid (show ∀ U, Below E1.heap.size E1 U → U.cell? ⟨z, off + i * 6, none⟩ = some (.int .u32 m) from fun U h => C0.out U (BW.out.trans ((btr BE1.out h).mono SB.out)))
            have CC := hid (show ∀ U : World, Calls Try.prog 28 #[.int .i64 0] U fun e w' => (∃ v, e = .returned v ∧ Dm.Am w' v 0) ∧ Below U.heap.size U w' from fun U => Dm.rcents_any 0 U (by decide) (by decide))
            obtain ⟨V16, hV16⟩ : ∃ U, E1.drew = U := ⟨_, rfl⟩
            have DV16 := hid (show Below E1.heap.size E1 V16 from by rw [← hV16]; exact bdrew1 _)
            have BV16 := hid (btr (Below.refl E1.heap.size E1) DV16.out)
            refine wp_region_held_drew (S := fun U => U.cell? ⟨z, off + i * 6, none⟩ = some (.int .u32 m)) (by kernel_rfl) ?_ (fun hHeld => ?_)
            · (try dsimp only); rw [hV16]; exact C0E.out _ BV16.out
            rw [hV16] at hHeld ⊢
            clear hV16
            refine' wpAnyH_take (i := 0) (oi := _) (v := _) rfl (by kernel_rfl) (by kernel_rfl) (by kernel_rfl) (fun _ _ _ h => h) (Or.inl ⟨by kernel_rfl, ?_⟩) (by assumption) ?_
            rotate_left
            · (intro w hSw; (try dsimp only at hSw); go_simp; try (with_reducible rfl))
            try simp only [List.getElem_toArray, List.getElem_cons_succ, List.getElem_cons_zero, Act.put, List.setIfInBounds_toArray, List.set_cons_zero, List.set_cons_succ]
            refine' wpAnyH_take (i := 1) (oi := _) (v := _) rfl (by kernel_rfl) (by kernel_rfl) (by kernel_rfl) (fun _ _ _ h => h) (Or.inl ⟨by kernel_rfl, ?_⟩) (by assumption) ?_
            rotate_left
            · (intro w hSw; (try dsimp only at hSw); go_simp; try (with_reducible rfl))
            try simp only [List.getElem_toArray, List.getElem_cons_succ, List.getElem_cons_zero, Act.put, List.setIfInBounds_toArray, List.set_cons_zero, List.set_cons_succ]
            refine' wpAnyH_take (i := 2) (oi := _) (v := _) rfl (by kernel_rfl) (by kernel_rfl) (by kernel_rfl) (fun _ _ _ h => h) (Or.inl ⟨by kernel_rfl, ?_⟩) (by assumption) ?_
            rotate_left
            · (intro w hSw; (try dsimp only at hSw); go_simp; try (with_reducible rfl))
            try simp only [List.getElem_toArray, List.getElem_cons_succ, List.getElem_cons_zero, Act.put, List.setIfInBounds_toArray, List.set_cons_zero, List.set_cons_succ]
            refine' wpAnyH_take (i := 3) (oi := _) (v := _) rfl (by kernel_rfl) (by kernel_rfl) (by kernel_rfl) (fun _ _ _ h => h) (Or.inl ⟨by kernel_rfl, ?_⟩) (by assumption) ?_
            rotate_left
            · (intro w hSw; (try dsimp only at hSw); go_simp; try (with_reducible rfl))
            try simp only [List.getElem_toArray, List.getElem_cons_succ, List.getElem_cons_zero, Act.put, List.setIfInBounds_toArray, List.set_cons_zero, List.set_cons_succ]
            refine' wpAnyH_take (i := 4) (oi := _) (v := _) rfl (by kernel_rfl) (by kernel_rfl) (by kernel_rfl) (fun _ _ _ h => h) (Or.inl ⟨by kernel_rfl, ?_⟩) (by assumption) ?_
            rotate_left
            · (intro w hSw; (try dsimp only at hSw); go_simp; try (with_reducible rfl))
            try simp only [List.getElem_toArray, List.getElem_cons_succ, List.getElem_cons_zero, Act.put, List.setIfInBounds_toArray, List.set_cons_zero, List.set_cons_succ]
            refine' wpAnyH_take (i := 5) (oi := _) (v := _) rfl (by kernel_rfl) (by kernel_rfl) (by kernel_rfl) (fun _ _ _ h => h) (Or.inl ⟨by kernel_rfl, ?_⟩) (by assumption) ?_
            rotate_left
            · (intro w hSw; (try dsimp only at hSw); go_simp; try (with_reducible rfl))
            try simp only [List.getElem_toArray, List.getElem_cons_succ, List.getElem_cons_zero, Act.put, List.setIfInBounds_toArray, List.set_cons_zero, List.set_cons_succ]
            refine wpAnyH_ready (rs := [6]) (by kernel_rfl) (by simp) ?_
            refine (AllReadyH.cons (o := _) rfl (fun K hK => ?_) AllReadyH.nil)
            go_simp
            go_at_call 28
            with_reducible refine (CC.out V16).mono ?_
            rintro e X17 ⟨⟨v0, rfl, ha0⟩, DbX17⟩
            have DX17 := hid (btr DV16.out DbX17)
            have BX17 := hid (btr BV16.out DbX17)
            obtain ⟨yb, yp, yn, yc, rfl⟩ := Dm.am_form ha0
            have HA0 := hid ha0
            clear ha0
            (try go_wp2_with fail)
            refine hK.out _ _ ?_ (fun hHeld => ?_)
            · (try dsimp only); exact C0E.out _ BX17.out
            clear hK K
            try simp only [List.getElem_toArray, List.getElem_cons_succ, List.getElem_cons_zero, Act.put, List.setIfInBounds_toArray, List.set_cons_zero, List.set_cons_succ]
            refine' wpAnyH_take (i := 7) (oi := _) (v := _) rfl (by kernel_rfl) (by kernel_rfl) (by kernel_rfl) (fun _ _ _ h => h) (Or.inl ⟨by kernel_rfl, ?_⟩) (by assumption) ?_
            rotate_left
            · (intro w hSw; (try dsimp only at hSw); go_simp; try (with_reducible rfl))
            try simp only [List.getElem_toArray, List.getElem_cons_succ, List.getElem_cons_zero, Act.put, List.setIfInBounds_toArray, List.set_cons_zero, List.set_cons_succ]
            refine wpAnyH_ready (rs := [8]) (by kernel_rfl) (by simp) ?_
            refine (AllReadyH.cons (o := _) rfl (fun K hK => ?_) AllReadyH.nil)
            go_simp
            obtain ⟨X2, hX2⟩ : ∃ X, X17.alloc (.cells #[.int .u32 m, .bool yb, .slice yp yn yc] 54) = X := ⟨_, rfl⟩
            obtain ⟨x2, hx2⟩ : ∃ x, X17.heap.size = x := ⟨_, rfl⟩
            have bX2 := hid (show Below X17.heap.size X17 X2 from by rw [← hX2]; exact ball _ _)
            have RX2 := hid (show X2.heap[x2]? = some (.cells #[.int .u32 m, .bool yb, .slice yp yn yc] 54 (0, 0)) from by rw [← hX2, ← hx2]; exact World.alloc_heap_new _ _)
            have BX2 := hid (btr BX17.out bX2.out)
            have HA2 := hid (HA0.out.on bX2.out)
            have HO2 := hid (own_on HO1.out BX2.out)
            have SX2 := hid (show g0 ≤ X2.heap.size from Nat.le_trans SG1.out BX2.out.size)
            rw [hX2, hx2]
            clear hX2 hx2
            refine hK.out _ _ ?_ (fun hHeld => ?_)
            · (try dsimp only); exact C0E.out _ BX2.out
            clear hK K
            try simp only [List.getElem_toArray, List.getElem_cons_succ, List.getElem_cons_zero, Act.put, List.setIfInBounds_toArray, List.set_cons_zero, List.set_cons_succ]
            refine wpAnyH_ready (rs := [9]) (by kernel_rfl) (by simp) ?_
            refine (AllReadyH.cons (o := _) rfl (fun K hK => ?_) AllReadyH.nil)
            refine step_app_rd (by rfl) (.tmp 57) (.tmp 65) 48 54 _ 3 40 (by rfl) Try.underlying48 infoR3 rfl (by decide) g0 _ t (rcs R) (by rfl) HO2.out ⟨x2, 0, none⟩ 1 1 [.int .u32 m, .bool yb, .slice yp yn yc] (by rfl) rfl (fun j u hu => row_rd RX2.out hu) (by simp [Value.oneCell']) (by have := HLE.out; unfold maxLen; omega) (by have := HLE.out; omega) SX2.out ?_
            intro v' E2 hown hgrow
            obtain ⟨q2, d2, rfl⟩ := own_form hown
            have HO3 := hid hown
            have HG3 := hid hgrow
            have BE2 := hid (show Below wo.heap.size wo E2 from (btr BE1.out BX2.out).grown HG3.out (btr BE1.out BX2.out).size (fun j hj => by have := (own_lo HO2.out hj).1; have := SG0.out; omega))
            have HA3 := hid (am_dg HA2.out (ownD HO2.out HG3.out (by decide)))
            clear hown hgrow
            refine hK.out _ _ ?_ (fun hHeld => ?_)
            · (try dsimp only); exact C0.out E2 (BW.out.trans (BE2.out.mono SB.out))
            clear hK K
            try simp only [List.getElem_toArray, List.getElem_cons_succ, List.getElem_cons_zero, Act.put, List.setIfInBounds_toArray, List.set_cons_zero, List.set_cons_succ]
            refine' wpAnyH_take (i := 10) (oi := _) (v := _) rfl (by kernel_rfl) (by kernel_rfl) (by kernel_rfl) (fun _ _ _ h => h) (Or.inl ⟨by kernel_rfl, ?_⟩) (by assumption) ?_
            rotate_left
            · (intro w hSw; (try dsimp only at hSw); go_simp; try (with_reducible rfl))
            try simp only [List.getElem_toArray, List.getElem_cons_succ, List.getElem_cons_zero, Act.put, List.setIfInBounds_toArray, List.set_cons_zero, List.set_cons_succ]
            refine wpAnyH_done (by kernel_rfl) ?_ _
            go_upto_region 12 with (at_builtin; refine Dm.wpList_app_rd (by rfl) (.tmp 67) (.tmp 70) 48 54 _ 3 40 (by rfl) Try.underlying48 infoR3 rfl (by decide) g0 _ (t + 1) _ (by rfl) HO3.out none 0 0 (rcs []) (by rfl) (fun _ => ⟨rfl, rfl⟩) (by rw [rcs_len, HBL.out]) (fun ad ea => by cases ea) (rcs_one []) (by have := HLE.out; have := HTKK.out; unfold maxLen; omega) (by have := HLE.out; have := HTKK.out; omega) (Nat.le_trans SX2.out HG3.out.size) ?_; intro v' W hown hgrow; rw [Nat.add_zero] at hown; obtain ⟨q3, D, rfl⟩ := own_form hown; have HO4 := hid hown; have HG4 := hid hgrow; clear hown hgrow)
            have BWo := hid (show Below wo.heap.size wo W from BE2.out.grown HG4.out BE2.out.size (fun j hj => by have := (own_lo HO3.out hj).1; have := SG0.out; omega))
            have HA4 := hid (am_dg HA3.out (ownD HO3.out HG4.out (by decide)))
            obtain ⟨K, hK⟩ : ∃ K, t + 1 = K := ⟨_, rfl⟩
            have HKK := hid (show K = R.length + 1 + ([] : List De).length from by rw [← hK, HAL.out, HBL.out])
            have HKI2 := hid (show K ≤ i + 1 from by have := HKI.out; have := HTKK.out; omega)
            rw [hK] at HO4
            try rw [hK]
            have HOW := hid (show W.ownsRow b 54 3 (.slice q3 K D) K (rcs (R ++ ⟨m, (0), yb, yp, yn, yc⟩ :: [])) from by
              have h1 := own_base HO4.out (Nat.le_trans SB.out SG0.out)
              rw [rcs_app, rcs_cons, ← List.append_assoc]
              exact h1)
            have HAW := hid (show ams W (R ++ ⟨m, (0), yb, yp, yn, yc⟩ :: []) from by
              intro x hx
              rcases List.mem_append.1 hx with hx | hx
              · exact (HAV.out x (List.mem_append_left _ hx)).on BWo.out
              · rcases List.mem_cons.1 hx with rfl | hx
                · exact HA4.out
                · exact (HAV.out x (List.mem_append_right _ hx)).on BWo.out)
            clear HO4 HA4 HO3 HG4 HG3 HA3 HO2 HA2 hK
            obtain ⟨G, hG, hGb, hGW⟩ := own_some HOW.out (by have := HKK.out; omega)
            subst hG
            have HGG := hid (And.intro hGb hGW)
            have BbW := hid (show Below b w W from BW.out.trans (BWo.out.mono SB.out))
            have HCW := hid (own_cap HOW.out)
            have K1 := hid (show ∀ U, Below W.heap.size W U → U.cell? ⟨G, t * 3 + 1, none⟩ = some (.bool yb) from fun U h => (h.cell (p := ⟨G, t * 3 + 1, none⟩) HGG.out.2).trans (by
              have h1 := (Dm.own_cells HOW.out).2 (R.length * 3 + 1) (.bool yb) (rcs_at R [] _ 1 (by decide))
              rw [Addr.add_lit, Nat.zero_add, HAL.out] at h1
              exact h1))
            have K2 := hid (show ∀ U, Below W.heap.size W U → U.cell? ⟨G, t * 3 + 2, none⟩ = some (.slice yp yn yc) from fun U h => (h.cell (p := ⟨G, t * 3 + 2, none⟩) HGG.out.2).trans (by
              have h1 := (Dm.own_cells HOW.out).2 (R.length * 3 + 2) (.slice yp yn yc) (rcs_at R [] _ 2 (by decide))
              rw [Addr.add_lit, Nat.zero_add, HAL.out] at h1
              exact h1))
            have K4 := hid (show ∀ U, Below W.heap.size W U → U.cell? ⟨z, off + i * 6 + 4, none⟩ = some (.bool bv) from fun U h => C4.out U (BbW.out.trans (h.mono (by rw [← HB.out]; exact BbW.out.size))))
            have K5 := hid (show ∀ U, Below W.heap.size W U → U.cell? ⟨z, off + i * 6 + 5, none⟩ = some (.slice xp xn xc) from fun U h => C5.out U (BbW.out.trans (h.mono (by rw [← HB.out]; exact BbW.out.size))))
            have AY := hid (show Dm.Am W (.agg #[.bool yb, .slice yp yn yc]) (0) from HAW.out ⟨m, (0), yb, yp, yn, yc⟩ (by simp))
            have HOVA := hid (show Amt (0) from by
              rw [← HOLD.out]
              cases e : f m with
              | none => exact ⟨by decide, by decide⟩
              | some v => exact (HR.out.ok (m, v) ((HR.out.iff m v HUM.out).1 e)).2)
            have CA := hid (show ∀ U, Below W.heap.size W U → Calls Try.prog 22 #[.agg #[.bool yb, .slice yp yn yc], .agg #[.bool bv, .slice xp xn xc]] U fun e w' => Dm.Ans w' e (maddV (0) am) (maddE (0) am) ∧ Hid (Below U.heap.size U w') from fun U h => Dm.radd_any _ _ (0) am U (AY.out.on h) (AX.out U (BbW.out.trans (h.mono (by rw [← HB.out]; exact BbW.out.size)))) HOVA.out HAMT.out)
            have HMV := hid (madd_amt (0) am)
            have HST := hid (show dues f ((m, am) :: nea (l.drop (i + 1))) = if maddE (0) am = 0 then dues (upd f m (maddV (0) am)) (nea (l.drop (i + 1))) else none from by rw [dues, HOLD.out])
            obtain ⟨er, her⟩ : ∃ x, maddE (0) am = x := ⟨_, rfl⟩
            obtain ⟨nv, hnv⟩ : ∃ x, maddV (0) am = x := ⟨_, rfl⟩
            have HER := hid (show er = 0 ∨ er = 10 from by rw [← her]; exact maddE_or _ _)
            rw [her, hnv] at CA HST
            rw [hnv] at HMV
            have t1 : (t : Int) < (K : Int) := by have := HKK.out; have := HAL.out; omega
            clear her hnv hGb hGW
            go_upto_region 12 with fail
            refine reg_cut (X := Nat × Bool × Option Addr × Nat × Nat) (fun a T9 => ((((((((((((((((a.put (some 73) (.slice (some ⟨G, 0, none⟩) K D)).put (some 74) (.int .i64 t)).put (some 75) (.pointer (some ⟨G, t * 3, none⟩))).put (some 76) (.pointer (some ⟨G, t * 3 + 1, none⟩))).put (some 77) (.agg #[.bool yb, .slice yp yn yc])).put (some 78) (.slice (some ⟨z, off, none⟩) n c)).put (some 79) (.int .i64 i)).put (some 80) (.pointer (some ⟨z, off + i * 6, none⟩))).put (some 81) (.pointer (some ⟨z, off + i * 6 + 4, none⟩))).put (some 82) (.agg #[.bool bv, .slice xp xn xc])).put (some 83) (.tuple #[.agg #[.bool T9.2.1, .slice T9.2.2.1 T9.2.2.2.1 T9.2.2.2.2], .int .i64 er])).put (some 72) (.tuple #[.agg #[.bool T9.2.1, .slice T9.2.2.1 T9.2.2.2.1 T9.2.2.2.2], .int .i64 er])).put (some 84) (.agg #[.bool T9.2.1, .slice T9.2.2.1 T9.2.2.2.1 T9.2.2.2.2])).put (some 85) (.int .i64 er)).put (some 8) (.pointer (some ⟨T9.1, 0, none⟩))).put (some 9) (.int .i64 er))) (fun T9 V9 => Hid (Below W.heap.size W V9) ∧ Hid (V9.heap[T9.1]? = some (.cells #[.bool T9.2.1, .slice T9.2.2.1 T9.2.2.2.1 T9.2.2.2.2] 41 (0, 0))) ∧ Hid (Dm.Am V9 (.agg #[.bool T9.2.1, .slice T9.2.2.1 T9.2.2.2.1 T9.2.2.2.2]) nv) ∧ Hid (W.heap.size ≤ T9.1)) ?_ ?_
            · obtain ⟨V1, hV1⟩ : ∃ U, W.drew = U := ⟨_, rfl⟩
              have BV1 := hid (show Below W.heap.size W V1 from by rw [← hV1]; exact bdrew1 _)
              refine wp_region_held_drew (S := (fun U => U.cell? ⟨G, t * 3 + 1, none⟩ = some (.bool yb) ∧ U.cell? ⟨G, t * 3 + 2, none⟩ = some (.slice yp yn yc) ∧ U.cell? ⟨z, off + i * 6 + 4, none⟩ = some (.bool bv) ∧ U.cell? ⟨z, off + i * 6 + 5, none⟩ = some (.slice xp xn xc))) (by kernel_rfl) ?_ (fun hHeld => ?_)
              · (try dsimp only); rw [hV1]; exact ⟨K1.out _ BV1.out, K2.out _ BV1.out, K4.out _ BV1.out, K5.out _ BV1.out⟩
              rw [hV1] at hHeld ⊢
              clear hV1
              refine' wpAnyH_take (i := 0) (oi := _) (v := _) rfl (by kernel_rfl) (by kernel_rfl) (by kernel_rfl) (fun _ _ _ h => h) (Or.inl ⟨by kernel_rfl, ?_⟩) (by assumption) ?_
              rotate_left
              · (intro w hSw; (try dsimp only at hSw); go_simp; try (with_reducible rfl))
              try simp only [List.getElem_toArray, List.getElem_cons_succ, List.getElem_cons_zero, Act.put, List.setIfInBounds_toArray, List.set_cons_zero, List.set_cons_succ]
              refine' wpAnyH_take (i := 1) (oi := _) (v := _) rfl (by kernel_rfl) (by kernel_rfl) (by kernel_rfl) (fun _ _ _ h => h) (Or.inl ⟨by kernel_rfl, ?_⟩) (by assumption) ?_
              rotate_left
              · (intro w hSw; (try dsimp only at hSw); go_simp; try (with_reducible rfl))
              try simp only [List.getElem_toArray, List.getElem_cons_succ, List.getElem_cons_zero, Act.put, List.setIfInBounds_toArray, List.set_cons_zero, List.set_cons_succ]
              refine' wpAnyH_take (i := 2) (oi := _) (v := _) rfl (by kernel_rfl) (by kernel_rfl) (by kernel_rfl) (fun _ _ _ h => h) (Or.inl ⟨by kernel_rfl, ?_⟩) (by assumption) ?_
              rotate_left
              · (intro w hSw; (try dsimp only at hSw); go_simp; try (with_reducible rfl))
              try simp only [List.getElem_toArray, List.getElem_cons_succ, List.getElem_cons_zero, Act.put, List.setIfInBounds_toArray, List.set_cons_zero, List.set_cons_succ]
              refine' wpAnyH_take (i := 3) (oi := _) (v := _) rfl (by kernel_rfl) (by kernel_rfl) (by kernel_rfl) (fun _ _ _ h => h) (Or.inl ⟨by kernel_rfl, ?_⟩) (by assumption) ?_
              rotate_left
              · (intro w hSw; (try dsimp only at hSw); go_simp; try (with_reducible rfl))
              try simp only [List.getElem_toArray, List.getElem_cons_succ, List.getElem_cons_zero, Act.put, List.setIfInBounds_toArray, List.set_cons_zero, List.set_cons_succ]
              refine' wpAnyH_take (i := 4) (oi := _) (v := _) rfl (by kernel_rfl) (by kernel_rfl) (by kernel_rfl) (fun _ _ _ h => h) (Or.inl ⟨by kernel_rfl, ?_⟩) (by assumption) ?_
              rotate_left
              · (intro w hSw; (try dsimp only at hSw); go_simp; try (with_reducible rfl))
              try simp only [List.getElem_toArray, List.getElem_cons_succ, List.getElem_cons_zero, Act.put, List.setIfInBounds_toArray, List.set_cons_zero, List.set_cons_succ]
              refine' wpAnyH_take (i := 5) (oi := _) (v := _) rfl (by kernel_rfl) (by kernel_rfl) (by kernel_rfl) (fun _ _ _ h => h) (Or.inl ⟨by kernel_rfl, ?_⟩) (by assumption) ?_
              rotate_left
              · (intro w hSw; (try dsimp only at hSw); go_simp; try (with_reducible rfl))
              try simp only [List.getElem_toArray, List.getElem_cons_succ, List.getElem_cons_zero, Act.put, List.setIfInBounds_toArray, List.set_cons_zero, List.set_cons_succ]
              refine' wpAnyH_take (i := 6) (oi := _) (v := _) rfl (by kernel_rfl) (by kernel_rfl) (by kernel_rfl) (fun _ _ _ h => h) (Or.inl ⟨by kernel_rfl, ?_⟩) (by assumption) ?_
              rotate_left
              · (intro w hSw; (try dsimp only at hSw); go_simp; try (with_reducible rfl))
              try simp only [List.getElem_toArray, List.getElem_cons_succ, List.getElem_cons_zero, Act.put, List.setIfInBounds_toArray, List.set_cons_zero, List.set_cons_succ]
              refine' wpAnyH_take (i := 7) (oi := _) (v := _) rfl (by kernel_rfl) (by kernel_rfl) (by kernel_rfl) (fun _ _ _ h => h) (Or.inl ⟨by kernel_rfl, ?_⟩) (by assumption) ?_
              rotate_left
              · (intro w hSw; (try dsimp only at hSw); go_simp; try (with_reducible rfl))
              try simp only [List.getElem_toArray, List.getElem_cons_succ, List.getElem_cons_zero, Act.put, List.setIfInBounds_toArray, List.set_cons_zero, List.set_cons_succ]
              refine' wpAnyH_take (i := 8) (oi := _) (v := _) rfl (by kernel_rfl) (by kernel_rfl) (by kernel_rfl) (fun _ _ _ h => h) (Or.inl ⟨by kernel_rfl, ?_⟩) (by assumption) ?_
              rotate_left
              · (intro w hSw; (try dsimp only at hSw); go_simp; try (with_reducible rfl))
              try simp only [List.getElem_toArray, List.getElem_cons_succ, List.getElem_cons_zero, Act.put, List.setIfInBounds_toArray, List.set_cons_zero, List.set_cons_succ]
              refine' wpAnyH_take (i := 9) (oi := _) (v := _) rfl (by kernel_rfl) (by kernel_rfl) (by kernel_rfl) (fun _ _ _ h => h) (Or.inl ⟨by kernel_rfl, ?_⟩) (by assumption) ?_
              rotate_left
              · (intro w hSw; (try dsimp only at hSw); go_simp; try (with_reducible rfl))
              try simp only [List.getElem_toArray, List.getElem_cons_succ, List.getElem_cons_zero, Act.put, List.setIfInBounds_toArray, List.set_cons_zero, List.set_cons_succ]
              refine wpAnyH_ready (rs := [10, 14]) (by kernel_rfl) (by simp) ?_
              refine (AllReadyH.cons (o := _) rfl (fun K hK => ?_) (AllReadyH.cons (o := _) rfl (fun K hK => ?_) AllReadyH.nil))
              · go_simp
                go_at_call 22
                with_reducible refine (CA.out V1 BV1.out).mono ?_
                rintro e X2 ⟨⟨r9, a9, n9, c9, rfl, h9⟩, DbX2⟩
                have HA9 := hid h9
                clear h9
                have DX2 := hid (btr BV1.out DbX2.out)
                have UX2 := hid (BV1.out.size)
                (try go_wp2_with fail)
                refine hK.out _ _ ?_ (fun hHeld => ?_)
                · (try dsimp only); exact ⟨K1.out _ DX2.out, K2.out _ DX2.out, K4.out _ DX2.out, K5.out _ DX2.out⟩
                clear hK K
                try simp only [List.getElem_toArray, List.getElem_cons_succ, List.getElem_cons_zero, Act.put, List.setIfInBounds_toArray, List.set_cons_zero, List.set_cons_succ]
                refine' wpAnyH_take (i := 11) (oi := _) (v := _) rfl (by kernel_rfl) (by kernel_rfl) (by kernel_rfl) (fun _ _ _ h => h) (Or.inl ⟨by kernel_rfl, ?_⟩) (by assumption) ?_
                rotate_left
                · (intro w hSw; (try dsimp only at hSw); go_simp; try (with_reducible rfl))
                try simp only [List.getElem_toArray, List.getElem_cons_succ, List.getElem_cons_zero, Act.put, List.setIfInBounds_toArray, List.set_cons_zero, List.set_cons_succ]
                refine' wpAnyH_take (i := 12) (oi := _) (v := _) rfl (by kernel_rfl) (by kernel_rfl) (by kernel_rfl) (fun _ _ _ h => h) (Or.inl ⟨by kernel_rfl, ?_⟩) (by assumption) ?_
                rotate_left
                · (intro w hSw; (try dsimp only at hSw); go_simp; try (with_reducible rfl))
                try simp only [List.getElem_toArray, List.getElem_cons_succ, List.getElem_cons_zero, Act.put, List.setIfInBounds_toArray, List.set_cons_zero, List.set_cons_succ]
                refine' wpAnyH_take (i := 13) (oi := _) (v := _) rfl (by kernel_rfl) (by kernel_rfl) (by kernel_rfl) (fun _ _ _ h => h) (Or.inl ⟨by kernel_rfl, ?_⟩) (by assumption) ?_
                rotate_left
                · (intro w hSw; (try dsimp only at hSw); go_simp; try (with_reducible rfl))
                try simp only [List.getElem_toArray, List.getElem_cons_succ, List.getElem_cons_zero, Act.put, List.setIfInBounds_toArray, List.set_cons_zero, List.set_cons_succ]
                refine wpAnyH_ready (rs := [14]) (by kernel_rfl) (by simp) ?_
                refine (AllReadyH.cons (o := _) rfl (fun K hK => ?_) AllReadyH.nil)
                go_simp
                obtain ⟨X3, hX3⟩ : ∃ X, X2.alloc (.cells #[.bool false, .slice none 0 0] 41) = X := ⟨_, rfl⟩
                have bX3 : Below X2.heap.size X2 X3 := by rw [← hX3]; exact ball _ _
                have e5 := hid (HA9.out.on bX3)
                have DX3 := hid (btr DX2.out bX3)
                have zX3 : X3.heap[X2.heap.size]? = some (.cells #[.bool false, .slice none 0 0] 41 (0, 0)) := by rw [← hX3]; exact World.alloc_heap_new _ _
                have yg4 := DX2.out.size
                obtain ⟨g4, hg4⟩ : ∃ g, X2.heap.size = g := ⟨_, rfl⟩
                rw [hg4] at zX3 yg4
                have ZX3 := hid zX3
                rw [hX3, hg4]
                clear hX3 hg4 zX3 bX3
                refine hK.out _ _ ?_ (fun hHeld => ?_)
                · (try dsimp only); exact ⟨K1.out _ DX3.out, K2.out _ DX3.out, K4.out _ DX3.out, K5.out _ DX3.out⟩
                clear hK K
                try simp only [List.getElem_toArray, List.getElem_cons_succ, List.getElem_cons_zero, Act.put, List.setIfInBounds_toArray, List.set_cons_zero, List.set_cons_succ]
                refine wpAnyH_ready (rs := [15]) (by kernel_rfl) (by simp) ?_
                refine (AllReadyH.cons (o := _) rfl (fun K hK => ?_) AllReadyH.nil)
                refine step_store_row (by rfl) 41 (.tmp 8) (.tmp 84) (by rfl) g4 #[.bool r9, .slice a9 n9 c9] (by rfl) (by rfl) 41 _ ZX3.out infoA2 (by rfl) (by simp [Value.oneCell']) ?_
                obtain ⟨Y6, hY6⟩ : ∃ Y, X3.setRow g4 #[.bool r9, .slice a9 n9 c9] = Y := ⟨_, rfl⟩
                have KY6 := hid (show Kp (fun j => j = g4) X3 Y6 from by rw [← hY6]; exact setRow_kp _ _ _)
                have AY6 := hid (show Y6.heap[g4]? = some (.cells #[.bool r9, .slice a9 n9 c9] 41 (0, 0)) from by rw [← hY6]; exact setRow_heap X3 g4 _ _ 41 (0, 0) ZX3.out)
                have DY6 := hid (show Below W.heap.size W Y6 from by rw [← hY6]; exact setRow_below DX3.out yg4)
                have e7 := hid (am_dg e5.out (Dg.kp KY6.out (e := 41) (by decide) (fun g _ h => by subst h; exact ⟨_, ZX3.out⟩)))
                rw [hY6]
                refine hK.out _ _ ?_ (fun hHeld => ?_)
                · (try dsimp only); exact ⟨K1.out _ DY6.out, K2.out _ DY6.out, K4.out _ DY6.out, K5.out _ DY6.out⟩
                clear hK K hY6
                try simp only [List.getElem_toArray, List.getElem_cons_succ, List.getElem_cons_zero, Act.put, List.setIfInBounds_toArray, List.set_cons_zero, List.set_cons_succ]
                refine' wpAnyH_take (i := 16) (oi := _) (v := _) rfl (by kernel_rfl) (by kernel_rfl) (by kernel_rfl) (fun _ _ _ h => h) (Or.inl ⟨by kernel_rfl, ?_⟩) (by assumption) ?_
                rotate_left
                · (intro w hSw; (try dsimp only at hSw); go_simp; try (with_reducible rfl))
                try simp only [List.getElem_toArray, List.getElem_cons_succ, List.getElem_cons_zero, Act.put, List.setIfInBounds_toArray, List.set_cons_zero, List.set_cons_succ]
                refine wpAnyH_done (by kernel_rfl) ?_ _
                exact ⟨(g4, r9, a9, n9, c9), by kernel_rfl, DY6, AY6, e7, hid yg4⟩
              · go_simp
                obtain ⟨X8, hX8⟩ : ∃ X, V1.alloc (.cells #[.bool false, .slice none 0 0] 41) = X := ⟨_, rfl⟩
                have bX8 : Below V1.heap.size V1 X8 := by rw [← hX8]; exact ball _ _
                have DX8 := hid (btr BV1.out bX8)
                have zX8 : X8.heap[V1.heap.size]? = some (.cells #[.bool false, .slice none 0 0] 41 (0, 0)) := by rw [← hX8]; exact World.alloc_heap_new _ _
                have yg9 := BV1.out.size
                obtain ⟨g9, hg9⟩ : ∃ g, V1.heap.size = g := ⟨_, rfl⟩
                rw [hg9] at zX8 yg9
                have ZX8 := hid zX8
                rw [hX8, hg9]
                clear hX8 hg9 zX8 bX8
                refine hK.out _ _ ?_ (fun hHeld => ?_)
                · (try dsimp only); exact ⟨K1.out _ DX8.out, K2.out _ DX8.out, K4.out _ DX8.out, K5.out _ DX8.out⟩
                clear hK K
                try simp only [List.getElem_toArray, List.getElem_cons_succ, List.getElem_cons_zero, Act.put, List.setIfInBounds_toArray, List.set_cons_zero, List.set_cons_succ]
                refine wpAnyH_ready (rs := [10]) (by kernel_rfl) (by simp) ?_
                refine (AllReadyH.cons (o := _) rfl (fun K hK => ?_) AllReadyH.nil)
                go_simp
                go_at_call 22
                with_reducible refine (CA.out X8 DX8.out).mono ?_
                rintro e X10 ⟨⟨r9, a9, n9, c9, rfl, h9⟩, DbX10⟩
                have HA9 := hid h9
                clear h9
                have r11 := hid (row_on ZX8.out DbX10.out)
                have DX10 := hid (btr DX8.out DbX10.out)
                have UX10 := hid (DX8.out.size)
                (try go_wp2_with fail)
                refine hK.out _ _ ?_ (fun hHeld => ?_)
                · (try dsimp only); exact ⟨K1.out _ DX10.out, K2.out _ DX10.out, K4.out _ DX10.out, K5.out _ DX10.out⟩
                clear hK K
                try simp only [List.getElem_toArray, List.getElem_cons_succ, List.getElem_cons_zero, Act.put, List.setIfInBounds_toArray, List.set_cons_zero, List.set_cons_succ]
                refine' wpAnyH_take (i := 11) (oi := _) (v := _) rfl (by kernel_rfl) (by kernel_rfl) (by kernel_rfl) (fun _ _ _ h => h) (Or.inl ⟨by kernel_rfl, ?_⟩) (by assumption) ?_
                rotate_left
                · (intro w hSw; (try dsimp only at hSw); go_simp; try (with_reducible rfl))
                try simp only [List.getElem_toArray, List.getElem_cons_succ, List.getElem_cons_zero, Act.put, List.setIfInBounds_toArray, List.set_cons_zero, List.set_cons_succ]
                refine' wpAnyH_take (i := 12) (oi := _) (v := _) rfl (by kernel_rfl) (by kernel_rfl) (by kernel_rfl) (fun _ _ _ h => h) (Or.inl ⟨by kernel_rfl, ?_⟩) (by assumption) ?_
                rotate_left
                · (intro w hSw; (try dsimp only at hSw); go_simp; try (with_reducible rfl))
                try simp only [List.getElem_toArray, List.getElem_cons_succ, List.getElem_cons_zero, Act.put, List.setIfInBounds_toArray, List.set_cons_zero, List.set_cons_succ]
                refine' wpAnyH_take (i := 13) (oi := _) (v := _) rfl (by kernel_rfl) (by kernel_rfl) (by kernel_rfl) (fun _ _ _ h => h) (Or.inl ⟨by kernel_rfl, ?_⟩) (by assumption) ?_
                rotate_left
                · (intro w hSw; (try dsimp only at hSw); go_simp; try (with_reducible rfl))
                try simp only [List.getElem_toArray, List.getElem_cons_succ, List.getElem_cons_zero, Act.put, List.setIfInBounds_toArray, List.set_cons_zero, List.set_cons_succ]
                refine wpAnyH_ready (rs := [15]) (by kernel_rfl) (by simp) ?_
                refine (AllReadyH.cons (o := _) rfl (fun K hK => ?_) AllReadyH.nil)
                refine step_store_row (by rfl) 41 (.tmp 8) (.tmp 84) (by rfl) g9 #[.bool r9, .slice a9 n9 c9] (by rfl) (by rfl) 41 _ r11.out infoA2 (by rfl) (by simp [Value.oneCell']) ?_
                obtain ⟨Y12, hY12⟩ : ∃ Y, X10.setRow g9 #[.bool r9, .slice a9 n9 c9] = Y := ⟨_, rfl⟩
                have KY12 := hid (show Kp (fun j => j = g9) X10 Y12 from by rw [← hY12]; exact setRow_kp _ _ _)
                have AY12 := hid (show Y12.heap[g9]? = some (.cells #[.bool r9, .slice a9 n9 c9] 41 (0, 0)) from by rw [← hY12]; exact setRow_heap X10 g9 _ _ 41 (0, 0) r11.out)
                have DY12 := hid (show Below W.heap.size W Y12 from by rw [← hY12]; exact setRow_below DX10.out yg9)
                have e13 := hid (am_dg HA9.out (Dg.kp KY12.out (e := 41) (by decide) (fun g _ h => by subst h; exact ⟨_, r11.out⟩)))
                rw [hY12]
                refine hK.out _ _ ?_ (fun hHeld => ?_)
                · (try dsimp only); exact ⟨K1.out _ DY12.out, K2.out _ DY12.out, K4.out _ DY12.out, K5.out _ DY12.out⟩
                clear hK K hY12
                try simp only [List.getElem_toArray, List.getElem_cons_succ, List.getElem_cons_zero, Act.put, List.setIfInBounds_toArray, List.set_cons_zero, List.set_cons_succ]
                refine' wpAnyH_take (i := 16) (oi := _) (v := _) rfl (by kernel_rfl) (by kernel_rfl) (by kernel_rfl) (fun _ _ _ h => h) (Or.inl ⟨by kernel_rfl, ?_⟩) (by assumption) ?_
                rotate_left
                · (intro w hSw; (try dsimp only at hSw); go_simp; try (with_reducible rfl))
                try simp only [List.getElem_toArray, List.getElem_cons_succ, List.getElem_cons_zero, Act.put, List.setIfInBounds_toArray, List.set_cons_zero, List.set_cons_succ]
                refine wpAnyH_done (by kernel_rfl) ?_ _
                exact ⟨(g9, r9, a9, n9, c9), by kernel_rfl, DY12, AY12, e13, hid yg9⟩
            · rintro ⟨gx, rb, ra, rn, rc⟩ Y ⟨BY, X8, A8, L8⟩
              try simp only [List.getElem_toArray, List.getElem_cons_succ, List.getElem_cons_zero, Act.put, List.setIfInBounds_toArray, List.set_cons_zero, List.set_cons_succ]
              dsimp only at X8 A8 L8
              have BWY := hid (show Below b w Y from BbW.out.trans (BY.out.mono (by rw [← HB.out]; exact BbW.out.size)))
              have HOY := hid (own_on HOW.out BY.out)
              have HAY := hid (ams_on HAW.out BY.out)
              have x0 := row_cell X8.out 0
              have x1 := row_cell X8.out 1
              simp only [List.getElem?_toArray, List.getElem?_cons_succ, List.getElem?_cons_zero] at x0 x1
              have p1 := K1.out Y BY.out
              have p2 := K2.out Y BY.out
              have f1 := own_frz HOY.out (t * 3 + 1)
              have f2 := own_frz HOY.out (t * 3 + 2)
              rcases HER.out with e0 | e0
              · subst e0
                go_upto_region 15 with fail
                go_upto_region 4 with fail
                obtain ⟨Z, hZ⟩ : ∃ Z, (Y.setCell ⟨G, t * 3 + 1, none⟩ (.bool rb)).setCell ⟨G, t * 3 + 2, none⟩ (.slice ra rn rc) = Z := ⟨_, rfl⟩
                have KZ := hid (show Kp (fun j => j = G) Y Z from by rw [← hZ]; exact (Kp.set Y G _ _).trans (Kp.set _ G _ _) (fun g _ e => e))
                have HOZ := hid (show Z.ownsRow b 54 3 (.slice (some ⟨G, 0, none⟩) K D) K (rcs (R ++ ⟨m, nv, rb, ra, rn, rc⟩ :: [])) from by
                  rw [← rcs_set R [] m (0) nv yb rb yp ra yn rn yc rc, HAL.out, ← hZ]
                  exact own_setc (own_setc HOY.out _ _) _ _)
                have HDZ := hid (show Dg Y Z from Dg.kp KZ.out (e := 54) (by decide) (fun g _ e => by subst e; exact own_ty HOY.out rfl))
                rw [hZ]
                clear hZ x0 x1 p1 p2 f1 f2
                go_wp2
                go_roundw
                case rel =>
                  refine ⟨i + 1, K, D, some ⟨G, 0, none⟩, R ++ ⟨m, nv, rb, ra, rn, rc⟩ :: [], upd f m nv, HLT.out, by go_num, rfl, hid ?_, HKI2, hid ?_, hid ?_, HOZ, hid ?_, hid ?_⟩
                  · rw [HKK.out, List.length_append, List.length_cons]; omega
                  · have := HRN.out nv HMV.out
                    unfold dmv at this ⊢
                    rw [List.map_append, List.map_cons]
                    exact this
                  · have h1 := HST.out
                    rw [if_pos rfl] at h1
                    rw [← h1]
                    exact HDU.out
                  · intro x hx
                    rcases List.mem_append.1 hx with hx | hx
                    · exact am_dg (HAY.out x (List.mem_append_left _ hx)) HDZ.out
                    · rcases List.mem_cons.1 hx with rfl | hx
                      · exact am_dg A8.out HDZ.out
                      · exact am_dg (HAY.out x (List.mem_append_right _ (List.mem_cons_of_mem _ hx))) HDZ.out
                  · exact BWY.out.trans (KZ.out.below (by rw [← HB.out]; exact BWY.out.size) (fun j hj e => by have := HGG.out.1; omega))
                case measure => have := HLT.out; simp [intOf]; omega
              · subst e0
                go_wp2
                go_ret2
                refine ⟨?_, BWY.out⟩
                have h1 := HST.out
                rw [if_neg (by decide)] at h1
                have h2 := HDU.out
                rw [← h2, show nea (⟨m, ii, bo, so, am, bv, xp, xn, xc⟩ :: l.drop (i + 1)) = (m, am) :: nea (l.drop (i + 1)) from rfl, h1]
                rfl

          | some a =>
            obtain ⟨g, rfl, hg1, hg2⟩ := own_at HO.out
            by_cases hd : t < d
            · go_upto_region 6 with fail
              go_big_quiet (fail)
              obtain ⟨V, hV⟩ : ∃ V, wr.drewN nq = V := ⟨_, rfl⟩
              have BV2 := hid (show Below wo.heap.size wo V from by rw [← hV]; exact btr BV.out (bdrew _ _))
              rw [hV]
              clear hV BV BWV c0
              go_upto_region 8 with fail
              go_big_quiet (fail)
              obtain ⟨V1, hV1⟩ : ∃ U, V.drewN nq = U := ⟨_, rfl⟩
              have BV3 := hid (show Below wo.heap.size wo V1 from by rw [← hV1]; exact btr BV2.out (bdrew _ _))
              rw [hV1]
              clear hV1 BV2
              obtain ⟨E0, hE0⟩ : ∃ E, V1.alloc (.cells #[] 54) = E := ⟨_, rfl⟩
              obtain ⟨g0, hg0⟩ : ∃ g, V1.heap.size = g := ⟨_, rfl⟩
              have HO0 := hid (show E0.ownsRow g0 54 3 (.slice (some ⟨g0, 0, none⟩) 0 0) 0 [] from by rw [← hE0, ← hg0]; exact own_empty V1 54 3)
              have BE0 := hid (show Below wo.heap.size wo E0 from btr BV3.out (by rw [← hE0]; exact ball _ _))
              have SG0 := hid (show wo.heap.size ≤ g0 from by rw [← hg0]; exact BV3.out.size)
              have SE0 := hid (show g0 ≤ E0.heap.size from by rw [← hE0, ← hg0]; exact (ball V1 _).size)
              have HE0 := hid hE0
              have Hg0 := hid hg0
              clear hE0 hg0 BV3
              go_upto_region 10 with (rw [HE0.out, Hg0.out]; at_builtin; refine Dm.wpList_app_rd (by rfl) (.tmp 52) (.tmp 55) 48 54 _ 3 40 (by rfl) Try.underlying48 infoR3 rfl (by decide) g0 _ 0 [] (by rfl) HO0.out (some ⟨g, 0, none⟩) d t (rcs R) (by rfl) (fun e => by cases e) (by rw [rcs_len, HAL.out]) (fun ad ea j u hu => by cases ea; exact rcs_take R [] _ g (own_on HOV.out BE0.out) j u hu) (rcs_one R) (by have := HLE.out; unfold maxLen; omega) (by have := HLE.out; omega) SE0.out ?_; intro v' E1 hown hgrow; obtain ⟨q1, d1, rfl⟩ := own_form hown; rw [Nat.zero_add, List.nil_append] at hown; have HO1 := hid hown; have HG1 := hid hgrow; clear hown hgrow)
              have BE1 := hid (show Below wo.heap.size wo E1 from BE0.out.grown HG1.out BE0.out.size (fun j hj => by have := (own_lo HO0.out hj).1; have := SG0.out; omega))
              have SG1 := hid (show g0 ≤ E1.heap.size from Nat.le_trans SE0.out HG1.out.size)
              have C0E := hid (show ∀ U, Below E1.heap.size E1 U → U.cell? ⟨z, off + i * 6, none⟩ = some (.int .u32 m) from fun U h => C0.out U (BW.out.trans ((btr BE1.out h).mono SB.out)))
              have CC := hid (show ∀ U : World, Calls Try.prog 28 #[.int .i64 0] U fun e w' => (∃ v, e = .returned v ∧ Dm.Am w' v 0) ∧ Below U.heap.size U w' from fun U => Dm.rcents_any 0 U (by decide) (by decide))
              obtain ⟨V18, hV18⟩ : ∃ U, E1.drew = U := ⟨_, rfl⟩
              have DV18 := hid (show Below E1.heap.size E1 V18 from by rw [← hV18]; exact bdrew1 _)
              have BV18 := hid (btr (Below.refl E1.heap.size E1) DV18.out)
              refine wp_region_held_drew (S := fun U => U.cell? ⟨z, off + i * 6, none⟩ = some (.int .u32 m)) (by kernel_rfl) ?_ (fun hHeld => ?_)
              · (try dsimp only); rw [hV18]; exact C0E.out _ BV18.out
              rw [hV18] at hHeld ⊢
              clear hV18
              refine' wpAnyH_take (i := 0) (oi := _) (v := _) rfl (by kernel_rfl) (by kernel_rfl) (by kernel_rfl) (fun _ _ _ h => h) (Or.inl ⟨by kernel_rfl, ?_⟩) (by assumption) ?_
              rotate_left
              · (intro w hSw; (try dsimp only at hSw); go_simp; try (with_reducible rfl))
              try simp only [List.getElem_toArray, List.getElem_cons_succ, List.getElem_cons_zero, Act.put, List.setIfInBounds_toArray, List.set_cons_zero, List.set_cons_succ]
              refine' wpAnyH_take (i := 1) (oi := _) (v := _) rfl (by kernel_rfl) (by kernel_rfl) (by kernel_rfl) (fun _ _ _ h => h) (Or.inl ⟨by kernel_rfl, ?_⟩) (by assumption) ?_
              rotate_left
              · (intro w hSw; (try dsimp only at hSw); go_simp; try (with_reducible rfl))
              try simp only [List.getElem_toArray, List.getElem_cons_succ, List.getElem_cons_zero, Act.put, List.setIfInBounds_toArray, List.set_cons_zero, List.set_cons_succ]
              refine' wpAnyH_take (i := 2) (oi := _) (v := _) rfl (by kernel_rfl) (by kernel_rfl) (by kernel_rfl) (fun _ _ _ h => h) (Or.inl ⟨by kernel_rfl, ?_⟩) (by assumption) ?_
              rotate_left
              · (intro w hSw; (try dsimp only at hSw); go_simp; try (with_reducible rfl))
              try simp only [List.getElem_toArray, List.getElem_cons_succ, List.getElem_cons_zero, Act.put, List.setIfInBounds_toArray, List.set_cons_zero, List.set_cons_succ]
              refine' wpAnyH_take (i := 3) (oi := _) (v := _) rfl (by kernel_rfl) (by kernel_rfl) (by kernel_rfl) (fun _ _ _ h => h) (Or.inl ⟨by kernel_rfl, ?_⟩) (by assumption) ?_
              rotate_left
              · (intro w hSw; (try dsimp only at hSw); go_simp; try (with_reducible rfl))
              try simp only [List.getElem_toArray, List.getElem_cons_succ, List.getElem_cons_zero, Act.put, List.setIfInBounds_toArray, List.set_cons_zero, List.set_cons_succ]
              refine' wpAnyH_take (i := 4) (oi := _) (v := _) rfl (by kernel_rfl) (by kernel_rfl) (by kernel_rfl) (fun _ _ _ h => h) (Or.inl ⟨by kernel_rfl, ?_⟩) (by assumption) ?_
              rotate_left
              · (intro w hSw; (try dsimp only at hSw); go_simp; try (with_reducible rfl))
              try simp only [List.getElem_toArray, List.getElem_cons_succ, List.getElem_cons_zero, Act.put, List.setIfInBounds_toArray, List.set_cons_zero, List.set_cons_succ]
              refine' wpAnyH_take (i := 5) (oi := _) (v := _) rfl (by kernel_rfl) (by kernel_rfl) (by kernel_rfl) (fun _ _ _ h => h) (Or.inl ⟨by kernel_rfl, ?_⟩) (by assumption) ?_
              rotate_left
              · (intro w hSw; (try dsimp only at hSw); go_simp; try (with_reducible rfl))
              try simp only [List.getElem_toArray, List.getElem_cons_succ, List.getElem_cons_zero, Act.put, List.setIfInBounds_toArray, List.set_cons_zero, List.set_cons_succ]
              refine wpAnyH_ready (rs := [6]) (by kernel_rfl) (by simp) ?_
              refine (AllReadyH.cons (o := _) rfl (fun K hK => ?_) AllReadyH.nil)
              go_simp
              go_at_call 28
              with_reducible refine (CC.out V18).mono ?_
              rintro e X19 ⟨⟨v0, rfl, ha0⟩, DbX19⟩
              have DX19 := hid (btr DV18.out DbX19)
              have BX19 := hid (btr BV18.out DbX19)
              obtain ⟨yb, yp, yn, yc, rfl⟩ := Dm.am_form ha0
              have HA0 := hid ha0
              clear ha0
              (try go_wp2_with fail)
              refine hK.out _ _ ?_ (fun hHeld => ?_)
              · (try dsimp only); exact C0E.out _ BX19.out
              clear hK K
              try simp only [List.getElem_toArray, List.getElem_cons_succ, List.getElem_cons_zero, Act.put, List.setIfInBounds_toArray, List.set_cons_zero, List.set_cons_succ]
              refine' wpAnyH_take (i := 7) (oi := _) (v := _) rfl (by kernel_rfl) (by kernel_rfl) (by kernel_rfl) (fun _ _ _ h => h) (Or.inl ⟨by kernel_rfl, ?_⟩) (by assumption) ?_
              rotate_left
              · (intro w hSw; (try dsimp only at hSw); go_simp; try (with_reducible rfl))
              try simp only [List.getElem_toArray, List.getElem_cons_succ, List.getElem_cons_zero, Act.put, List.setIfInBounds_toArray, List.set_cons_zero, List.set_cons_succ]
              refine wpAnyH_ready (rs := [8]) (by kernel_rfl) (by simp) ?_
              refine (AllReadyH.cons (o := _) rfl (fun K hK => ?_) AllReadyH.nil)
              go_simp
              obtain ⟨X2, hX2⟩ : ∃ X, X19.alloc (.cells #[.int .u32 m, .bool yb, .slice yp yn yc] 54) = X := ⟨_, rfl⟩
              obtain ⟨x2, hx2⟩ : ∃ x, X19.heap.size = x := ⟨_, rfl⟩
              have bX2 := hid (show Below X19.heap.size X19 X2 from by rw [← hX2]; exact ball _ _)
              have RX2 := hid (show X2.heap[x2]? = some (.cells #[.int .u32 m, .bool yb, .slice yp yn yc] 54 (0, 0)) from by rw [← hX2, ← hx2]; exact World.alloc_heap_new _ _)
              have BX2 := hid (btr BX19.out bX2.out)
              have HA2 := hid (HA0.out.on bX2.out)
              have HO2 := hid (own_on HO1.out BX2.out)
              have SX2 := hid (show g0 ≤ X2.heap.size from Nat.le_trans SG1.out BX2.out.size)
              rw [hX2, hx2]
              clear hX2 hx2
              refine hK.out _ _ ?_ (fun hHeld => ?_)
              · (try dsimp only); exact C0E.out _ BX2.out
              clear hK K
              try simp only [List.getElem_toArray, List.getElem_cons_succ, List.getElem_cons_zero, Act.put, List.setIfInBounds_toArray, List.set_cons_zero, List.set_cons_succ]
              refine wpAnyH_ready (rs := [9]) (by kernel_rfl) (by simp) ?_
              refine (AllReadyH.cons (o := _) rfl (fun K hK => ?_) AllReadyH.nil)
              refine step_app_rd (by rfl) (.tmp 57) (.tmp 65) 48 54 _ 3 40 (by rfl) Try.underlying48 infoR3 rfl (by decide) g0 _ t (rcs R) (by rfl) HO2.out ⟨x2, 0, none⟩ 1 1 [.int .u32 m, .bool yb, .slice yp yn yc] (by rfl) rfl (fun j u hu => row_rd RX2.out hu) (by simp [Value.oneCell']) (by have := HLE.out; unfold maxLen; omega) (by have := HLE.out; omega) SX2.out ?_
              intro v' E2 hown hgrow
              obtain ⟨q2, d2, rfl⟩ := own_form hown
              have HO3 := hid hown
              have HG3 := hid hgrow
              have BE2 := hid (show Below wo.heap.size wo E2 from (btr BE1.out BX2.out).grown HG3.out (btr BE1.out BX2.out).size (fun j hj => by have := (own_lo HO2.out hj).1; have := SG0.out; omega))
              have HA3 := hid (am_dg HA2.out (ownD HO2.out HG3.out (by decide)))
              clear hown hgrow
              refine hK.out _ _ ?_ (fun hHeld => ?_)
              · (try dsimp only); exact C0.out E2 (BW.out.trans (BE2.out.mono SB.out))
              clear hK K
              try simp only [List.getElem_toArray, List.getElem_cons_succ, List.getElem_cons_zero, Act.put, List.setIfInBounds_toArray, List.set_cons_zero, List.set_cons_succ]
              refine' wpAnyH_take (i := 10) (oi := _) (v := _) rfl (by kernel_rfl) (by kernel_rfl) (by kernel_rfl) (fun _ _ _ h => h) (Or.inl ⟨by kernel_rfl, ?_⟩) (by assumption) ?_
              rotate_left
              · (intro w hSw; (try dsimp only at hSw); go_simp; try (with_reducible rfl))
              try simp only [List.getElem_toArray, List.getElem_cons_succ, List.getElem_cons_zero, Act.put, List.setIfInBounds_toArray, List.set_cons_zero, List.set_cons_succ]
              refine wpAnyH_done (by kernel_rfl) ?_ _
              go_upto_region 12 with (at_builtin; refine Dm.wpList_app_rd (by rfl) (.tmp 67) (.tmp 70) 48 54 _ 3 40 (by rfl) Try.underlying48 infoR3 rfl (by decide) g0 _ (t + 1) _ (by rfl) HO3.out (some ⟨g, t * 3, none⟩) (d - t) 0 (rcs []) (by rfl) (fun e => by cases e) (by rw [rcs_len, HBL.out]) (fun ad ea j u hu => by simp [rcs] at hu) (rcs_one []) (by have := HLE.out; have := HTKK.out; unfold maxLen; omega) (by have := HLE.out; have := HTKK.out; omega) (Nat.le_trans SX2.out HG3.out.size) ?_; intro v' W hown hgrow; rw [Nat.add_zero] at hown; obtain ⟨q3, D, rfl⟩ := own_form hown; have HO4 := hid hown; have HG4 := hid hgrow; clear hown hgrow)
              have BWo := hid (show Below wo.heap.size wo W from BE2.out.grown HG4.out BE2.out.size (fun j hj => by have := (own_lo HO3.out hj).1; have := SG0.out; omega))
              have HA4 := hid (am_dg HA3.out (ownD HO3.out HG4.out (by decide)))
              obtain ⟨K, hK⟩ : ∃ K, t + 1 = K := ⟨_, rfl⟩
              have HKK := hid (show K = R.length + 1 + ([] : List De).length from by rw [← hK, HAL.out, HBL.out])
              have HKI2 := hid (show K ≤ i + 1 from by have := HKI.out; have := HTKK.out; omega)
              rw [hK] at HO4
              try rw [hK]
              have HOW := hid (show W.ownsRow b 54 3 (.slice q3 K D) K (rcs (R ++ ⟨m, (0), yb, yp, yn, yc⟩ :: [])) from by
                have h1 := own_base HO4.out (Nat.le_trans SB.out SG0.out)
                rw [rcs_app, rcs_cons, ← List.append_assoc]
                exact h1)
              have HAW := hid (show ams W (R ++ ⟨m, (0), yb, yp, yn, yc⟩ :: []) from by
                intro x hx
                rcases List.mem_append.1 hx with hx | hx
                · exact (HAV.out x (List.mem_append_left _ hx)).on BWo.out
                · rcases List.mem_cons.1 hx with rfl | hx
                  · exact HA4.out
                  · exact (HAV.out x (List.mem_append_right _ hx)).on BWo.out)
              clear HO4 HA4 HO3 HG4 HG3 HA3 HO2 HA2 hK
              obtain ⟨G, hG, hGb, hGW⟩ := own_some HOW.out (by have := HKK.out; omega)
              subst hG
              have HGG := hid (And.intro hGb hGW)
              have BbW := hid (show Below b w W from BW.out.trans (BWo.out.mono SB.out))
              have HCW := hid (own_cap HOW.out)
              have K1 := hid (show ∀ U, Below W.heap.size W U → U.cell? ⟨G, t * 3 + 1, none⟩ = some (.bool yb) from fun U h => (h.cell (p := ⟨G, t * 3 + 1, none⟩) HGG.out.2).trans (by
                have h1 := (Dm.own_cells HOW.out).2 (R.length * 3 + 1) (.bool yb) (rcs_at R [] _ 1 (by decide))
                rw [Addr.add_lit, Nat.zero_add, HAL.out] at h1
                exact h1))
              have K2 := hid (show ∀ U, Below W.heap.size W U → U.cell? ⟨G, t * 3 + 2, none⟩ = some (.slice yp yn yc) from fun U h => (h.cell (p := ⟨G, t * 3 + 2, none⟩) HGG.out.2).trans (by
                have h1 := (Dm.own_cells HOW.out).2 (R.length * 3 + 2) (.slice yp yn yc) (rcs_at R [] _ 2 (by decide))
                rw [Addr.add_lit, Nat.zero_add, HAL.out] at h1
                exact h1))
              have K4 := hid (show ∀ U, Below W.heap.size W U → U.cell? ⟨z, off + i * 6 + 4, none⟩ = some (.bool bv) from fun U h => C4.out U (BbW.out.trans (h.mono (by rw [← HB.out]; exact BbW.out.size))))
              have K5 := hid (show ∀ U, Below W.heap.size W U → U.cell? ⟨z, off + i * 6 + 5, none⟩ = some (.slice xp xn xc) from fun U h => C5.out U (BbW.out.trans (h.mono (by rw [← HB.out]; exact BbW.out.size))))
              have AY := hid (show Dm.Am W (.agg #[.bool yb, .slice yp yn yc]) (0) from HAW.out ⟨m, (0), yb, yp, yn, yc⟩ (by simp))
              have HOVA := hid (show Amt (0) from by
                rw [← HOLD.out]
                cases e : f m with
                | none => exact ⟨by decide, by decide⟩
                | some v => exact (HR.out.ok (m, v) ((HR.out.iff m v HUM.out).1 e)).2)
              have CA := hid (show ∀ U, Below W.heap.size W U → Calls Try.prog 22 #[.agg #[.bool yb, .slice yp yn yc], .agg #[.bool bv, .slice xp xn xc]] U fun e w' => Dm.Ans w' e (maddV (0) am) (maddE (0) am) ∧ Hid (Below U.heap.size U w') from fun U h => Dm.radd_any _ _ (0) am U (AY.out.on h) (AX.out U (BbW.out.trans (h.mono (by rw [← HB.out]; exact BbW.out.size)))) HOVA.out HAMT.out)
              have HMV := hid (madd_amt (0) am)
              have HST := hid (show dues f ((m, am) :: nea (l.drop (i + 1))) = if maddE (0) am = 0 then dues (upd f m (maddV (0) am)) (nea (l.drop (i + 1))) else none from by rw [dues, HOLD.out])
              obtain ⟨er, her⟩ : ∃ x, maddE (0) am = x := ⟨_, rfl⟩
              obtain ⟨nv, hnv⟩ : ∃ x, maddV (0) am = x := ⟨_, rfl⟩
              have HER := hid (show er = 0 ∨ er = 10 from by rw [← her]; exact maddE_or _ _)
              rw [her, hnv] at CA HST
              rw [hnv] at HMV
              have t1 : (t : Int) < (K : Int) := by have := HKK.out; have := HAL.out; omega
              clear her hnv hGb hGW
              go_upto_region 12 with fail
              refine reg_cut (X := Nat × Bool × Option Addr × Nat × Nat) (fun a T9 => ((((((((((((((((a.put (some 73) (.slice (some ⟨G, 0, none⟩) K D)).put (some 74) (.int .i64 t)).put (some 75) (.pointer (some ⟨G, t * 3, none⟩))).put (some 76) (.pointer (some ⟨G, t * 3 + 1, none⟩))).put (some 77) (.agg #[.bool yb, .slice yp yn yc])).put (some 78) (.slice (some ⟨z, off, none⟩) n c)).put (some 79) (.int .i64 i)).put (some 80) (.pointer (some ⟨z, off + i * 6, none⟩))).put (some 81) (.pointer (some ⟨z, off + i * 6 + 4, none⟩))).put (some 82) (.agg #[.bool bv, .slice xp xn xc])).put (some 83) (.tuple #[.agg #[.bool T9.2.1, .slice T9.2.2.1 T9.2.2.2.1 T9.2.2.2.2], .int .i64 er])).put (some 72) (.tuple #[.agg #[.bool T9.2.1, .slice T9.2.2.1 T9.2.2.2.1 T9.2.2.2.2], .int .i64 er])).put (some 84) (.agg #[.bool T9.2.1, .slice T9.2.2.1 T9.2.2.2.1 T9.2.2.2.2])).put (some 85) (.int .i64 er)).put (some 8) (.pointer (some ⟨T9.1, 0, none⟩))).put (some 9) (.int .i64 er))) (fun T9 V9 => Hid (Below W.heap.size W V9) ∧ Hid (V9.heap[T9.1]? = some (.cells #[.bool T9.2.1, .slice T9.2.2.1 T9.2.2.2.1 T9.2.2.2.2] 41 (0, 0))) ∧ Hid (Dm.Am V9 (.agg #[.bool T9.2.1, .slice T9.2.2.1 T9.2.2.2.1 T9.2.2.2.2]) nv) ∧ Hid (W.heap.size ≤ T9.1)) ?_ ?_
              · obtain ⟨V1, hV1⟩ : ∃ U, W.drew = U := ⟨_, rfl⟩
                have BV1 := hid (show Below W.heap.size W V1 from by rw [← hV1]; exact bdrew1 _)
                refine wp_region_held_drew (S := (fun U => U.cell? ⟨G, t * 3 + 1, none⟩ = some (.bool yb) ∧ U.cell? ⟨G, t * 3 + 2, none⟩ = some (.slice yp yn yc) ∧ U.cell? ⟨z, off + i * 6 + 4, none⟩ = some (.bool bv) ∧ U.cell? ⟨z, off + i * 6 + 5, none⟩ = some (.slice xp xn xc))) (by kernel_rfl) ?_ (fun hHeld => ?_)
                · (try dsimp only); rw [hV1]; exact ⟨K1.out _ BV1.out, K2.out _ BV1.out, K4.out _ BV1.out, K5.out _ BV1.out⟩
                rw [hV1] at hHeld ⊢
                clear hV1
                refine' wpAnyH_take (i := 0) (oi := _) (v := _) rfl (by kernel_rfl) (by kernel_rfl) (by kernel_rfl) (fun _ _ _ h => h) (Or.inl ⟨by kernel_rfl, ?_⟩) (by assumption) ?_
                rotate_left
                · (intro w hSw; (try dsimp only at hSw); go_simp; try (with_reducible rfl))
                try simp only [List.getElem_toArray, List.getElem_cons_succ, List.getElem_cons_zero, Act.put, List.setIfInBounds_toArray, List.set_cons_zero, List.set_cons_succ]
                refine' wpAnyH_take (i := 1) (oi := _) (v := _) rfl (by kernel_rfl) (by kernel_rfl) (by kernel_rfl) (fun _ _ _ h => h) (Or.inl ⟨by kernel_rfl, ?_⟩) (by assumption) ?_
                rotate_left
                · (intro w hSw; (try dsimp only at hSw); go_simp; try (with_reducible rfl))
                try simp only [List.getElem_toArray, List.getElem_cons_succ, List.getElem_cons_zero, Act.put, List.setIfInBounds_toArray, List.set_cons_zero, List.set_cons_succ]
                refine' wpAnyH_take (i := 2) (oi := _) (v := _) rfl (by kernel_rfl) (by kernel_rfl) (by kernel_rfl) (fun _ _ _ h => h) (Or.inl ⟨by kernel_rfl, ?_⟩) (by assumption) ?_
                rotate_left
                · (intro w hSw; (try dsimp only at hSw); go_simp; try (with_reducible rfl))
                try simp only [List.getElem_toArray, List.getElem_cons_succ, List.getElem_cons_zero, Act.put, List.setIfInBounds_toArray, List.set_cons_zero, List.set_cons_succ]
                refine' wpAnyH_take (i := 3) (oi := _) (v := _) rfl (by kernel_rfl) (by kernel_rfl) (by kernel_rfl) (fun _ _ _ h => h) (Or.inl ⟨by kernel_rfl, ?_⟩) (by assumption) ?_
                rotate_left
                · (intro w hSw; (try dsimp only at hSw); go_simp; try (with_reducible rfl))
                try simp only [List.getElem_toArray, List.getElem_cons_succ, List.getElem_cons_zero, Act.put, List.setIfInBounds_toArray, List.set_cons_zero, List.set_cons_succ]
                refine' wpAnyH_take (i := 4) (oi := _) (v := _) rfl (by kernel_rfl) (by kernel_rfl) (by kernel_rfl) (fun _ _ _ h => h) (Or.inl ⟨by kernel_rfl, ?_⟩) (by assumption) ?_
                rotate_left
                · (intro w hSw; (try dsimp only at hSw); go_simp; try (with_reducible rfl))
                try simp only [List.getElem_toArray, List.getElem_cons_succ, List.getElem_cons_zero, Act.put, List.setIfInBounds_toArray, List.set_cons_zero, List.set_cons_succ]
                refine' wpAnyH_take (i := 5) (oi := _) (v := _) rfl (by kernel_rfl) (by kernel_rfl) (by kernel_rfl) (fun _ _ _ h => h) (Or.inl ⟨by kernel_rfl, ?_⟩) (by assumption) ?_
                rotate_left
                · (intro w hSw; (try dsimp only at hSw); go_simp; try (with_reducible rfl))
                try simp only [List.getElem_toArray, List.getElem_cons_succ, List.getElem_cons_zero, Act.put, List.setIfInBounds_toArray, List.set_cons_zero, List.set_cons_succ]
                refine' wpAnyH_take (i := 6) (oi := _) (v := _) rfl (by kernel_rfl) (by kernel_rfl) (by kernel_rfl) (fun _ _ _ h => h) (Or.inl ⟨by kernel_rfl, ?_⟩) (by assumption) ?_
                rotate_left
                · (intro w hSw; (try dsimp only at hSw); go_simp; try (with_reducible rfl))
                try simp only [List.getElem_toArray, List.getElem_cons_succ, List.getElem_cons_zero, Act.put, List.setIfInBounds_toArray, List.set_cons_zero, List.set_cons_succ]
                refine' wpAnyH_take (i := 7) (oi := _) (v := _) rfl (by kernel_rfl) (by kernel_rfl) (by kernel_rfl) (fun _ _ _ h => h) (Or.inl ⟨by kernel_rfl, ?_⟩) (by assumption) ?_
                rotate_left
                · (intro w hSw; (try dsimp only at hSw); go_simp; try (with_reducible rfl))
                try simp only [List.getElem_toArray, List.getElem_cons_succ, List.getElem_cons_zero, Act.put, List.setIfInBounds_toArray, List.set_cons_zero, List.set_cons_succ]
                refine' wpAnyH_take (i := 8) (oi := _) (v := _) rfl (by kernel_rfl) (by kernel_rfl) (by kernel_rfl) (fun _ _ _ h => h) (Or.inl ⟨by kernel_rfl, ?_⟩) (by assumption) ?_
                rotate_left
                · (intro w hSw; (try dsimp only at hSw); go_simp; try (with_reducible rfl))
                try simp only [List.getElem_toArray, List.getElem_cons_succ, List.getElem_cons_zero, Act.put, List.setIfInBounds_toArray, List.set_cons_zero, List.set_cons_succ]
                refine' wpAnyH_take (i := 9) (oi := _) (v := _) rfl (by kernel_rfl) (by kernel_rfl) (by kernel_rfl) (fun _ _ _ h => h) (Or.inl ⟨by kernel_rfl, ?_⟩) (by assumption) ?_
                rotate_left
                · (intro w hSw; (try dsimp only at hSw); go_simp; try (with_reducible rfl))
                try simp only [List.getElem_toArray, List.getElem_cons_succ, List.getElem_cons_zero, Act.put, List.setIfInBounds_toArray, List.set_cons_zero, List.set_cons_succ]
                refine wpAnyH_ready (rs := [10, 14]) (by kernel_rfl) (by simp) ?_
                refine (AllReadyH.cons (o := _) rfl (fun K hK => ?_) (AllReadyH.cons (o := _) rfl (fun K hK => ?_) AllReadyH.nil))
                · go_simp
                  go_at_call 22
                  with_reducible refine (CA.out V1 BV1.out).mono ?_
                  rintro e X2 ⟨⟨r9, a9, n9, c9, rfl, h9⟩, DbX2⟩
                  have HA9 := hid h9
                  clear h9
                  have DX2 := hid (btr BV1.out DbX2.out)
                  have UX2 := hid (BV1.out.size)
                  (try go_wp2_with fail)
                  refine hK.out _ _ ?_ (fun hHeld => ?_)
                  · (try dsimp only); exact ⟨K1.out _ DX2.out, K2.out _ DX2.out, K4.out _ DX2.out, K5.out _ DX2.out⟩
                  clear hK K
                  try simp only [List.getElem_toArray, List.getElem_cons_succ, List.getElem_cons_zero, Act.put, List.setIfInBounds_toArray, List.set_cons_zero, List.set_cons_succ]
                  refine' wpAnyH_take (i := 11) (oi := _) (v := _) rfl (by kernel_rfl) (by kernel_rfl) (by kernel_rfl) (fun _ _ _ h => h) (Or.inl ⟨by kernel_rfl, ?_⟩) (by assumption) ?_
                  rotate_left
                  · (intro w hSw; (try dsimp only at hSw); go_simp; try (with_reducible rfl))
                  try simp only [List.getElem_toArray, List.getElem_cons_succ, List.getElem_cons_zero, Act.put, List.setIfInBounds_toArray, List.set_cons_zero, List.set_cons_succ]
                  refine' wpAnyH_take (i := 12) (oi := _) (v := _) rfl (by kernel_rfl) (by kernel_rfl) (by kernel_rfl) (fun _ _ _ h => h) (Or.inl ⟨by kernel_rfl, ?_⟩) (by assumption) ?_
                  rotate_left
                  · (intro w hSw; (try dsimp only at hSw); go_simp; try (with_reducible rfl))
                  try simp only [List.getElem_toArray, List.getElem_cons_succ, List.getElem_cons_zero, Act.put, List.setIfInBounds_toArray, List.set_cons_zero, List.set_cons_succ]
                  refine' wpAnyH_take (i := 13) (oi := _) (v := _) rfl (by kernel_rfl) (by kernel_rfl) (by kernel_rfl) (fun _ _ _ h => h) (Or.inl ⟨by kernel_rfl, ?_⟩) (by assumption) ?_
                  rotate_left
                  · (intro w hSw; (try dsimp only at hSw); go_simp; try (with_reducible rfl))
                  try simp only [List.getElem_toArray, List.getElem_cons_succ, List.getElem_cons_zero, Act.put, List.setIfInBounds_toArray, List.set_cons_zero, List.set_cons_succ]
                  refine wpAnyH_ready (rs := [14]) (by kernel_rfl) (by simp) ?_
                  refine (AllReadyH.cons (o := _) rfl (fun K hK => ?_) AllReadyH.nil)
                  go_simp
                  obtain ⟨X3, hX3⟩ : ∃ X, X2.alloc (.cells #[.bool false, .slice none 0 0] 41) = X := ⟨_, rfl⟩
                  have bX3 : Below X2.heap.size X2 X3 := by rw [← hX3]; exact ball _ _
                  have e5 := hid (HA9.out.on bX3)
                  have DX3 := hid (btr DX2.out bX3)
                  have zX3 : X3.heap[X2.heap.size]? = some (.cells #[.bool false, .slice none 0 0] 41 (0, 0)) := by rw [← hX3]; exact World.alloc_heap_new _ _
                  have yg4 := DX2.out.size
                  obtain ⟨g4, hg4⟩ : ∃ g, X2.heap.size = g := ⟨_, rfl⟩
                  rw [hg4] at zX3 yg4
                  have ZX3 := hid zX3
                  rw [hX3, hg4]
                  clear hX3 hg4 zX3 bX3
                  refine hK.out _ _ ?_ (fun hHeld => ?_)
                  · (try dsimp only); exact ⟨K1.out _ DX3.out, K2.out _ DX3.out, K4.out _ DX3.out, K5.out _ DX3.out⟩
                  clear hK K
                  try simp only [List.getElem_toArray, List.getElem_cons_succ, List.getElem_cons_zero, Act.put, List.setIfInBounds_toArray, List.set_cons_zero, List.set_cons_succ]
                  refine wpAnyH_ready (rs := [15]) (by kernel_rfl) (by simp) ?_
                  refine (AllReadyH.cons (o := _) rfl (fun K hK => ?_) AllReadyH.nil)
                  refine step_store_row (by rfl) 41 (.tmp 8) (.tmp 84) (by rfl) g4 #[.bool r9, .slice a9 n9 c9] (by rfl) (by rfl) 41 _ ZX3.out infoA2 (by rfl) (by simp [Value.oneCell']) ?_
                  obtain ⟨Y6, hY6⟩ : ∃ Y, X3.setRow g4 #[.bool r9, .slice a9 n9 c9] = Y := ⟨_, rfl⟩
                  have KY6 := hid (show Kp (fun j => j = g4) X3 Y6 from by rw [← hY6]; exact setRow_kp _ _ _)
                  have AY6 := hid (show Y6.heap[g4]? = some (.cells #[.bool r9, .slice a9 n9 c9] 41 (0, 0)) from by rw [← hY6]; exact setRow_heap X3 g4 _ _ 41 (0, 0) ZX3.out)
                  have DY6 := hid (show Below W.heap.size W Y6 from by rw [← hY6]; exact setRow_below DX3.out yg4)
                  have e7 := hid (am_dg e5.out (Dg.kp KY6.out (e := 41) (by decide) (fun g _ h => by subst h; exact ⟨_, ZX3.out⟩)))
                  rw [hY6]
                  refine hK.out _ _ ?_ (fun hHeld => ?_)
                  · (try dsimp only); exact ⟨K1.out _ DY6.out, K2.out _ DY6.out, K4.out _ DY6.out, K5.out _ DY6.out⟩
                  clear hK K hY6
                  try simp only [List.getElem_toArray, List.getElem_cons_succ, List.getElem_cons_zero, Act.put, List.setIfInBounds_toArray, List.set_cons_zero, List.set_cons_succ]
                  refine' wpAnyH_take (i := 16) (oi := _) (v := _) rfl (by kernel_rfl) (by kernel_rfl) (by kernel_rfl) (fun _ _ _ h => h) (Or.inl ⟨by kernel_rfl, ?_⟩) (by assumption) ?_
                  rotate_left
                  · (intro w hSw; (try dsimp only at hSw); go_simp; try (with_reducible rfl))
                  try simp only [List.getElem_toArray, List.getElem_cons_succ, List.getElem_cons_zero, Act.put, List.setIfInBounds_toArray, List.set_cons_zero, List.set_cons_succ]
                  refine wpAnyH_done (by kernel_rfl) ?_ _
                  exact ⟨(g4, r9, a9, n9, c9), by kernel_rfl, DY6, AY6, e7, hid yg4⟩
                · go_simp
                  obtain ⟨X8, hX8⟩ : ∃ X, V1.alloc (.cells #[.bool false, .slice none 0 0] 41) = X := ⟨_, rfl⟩
                  have bX8 : Below V1.heap.size V1 X8 := by rw [← hX8]; exact ball _ _
                  have DX8 := hid (btr BV1.out bX8)
                  have zX8 : X8.heap[V1.heap.size]? = some (.cells #[.bool false, .slice none 0 0] 41 (0, 0)) := by rw [← hX8]; exact World.alloc_heap_new _ _
                  have yg9 := BV1.out.size
                  obtain ⟨g9, hg9⟩ : ∃ g, V1.heap.size = g := ⟨_, rfl⟩
                  rw [hg9] at zX8 yg9
                  have ZX8 := hid zX8
                  rw [hX8, hg9]
                  clear hX8 hg9 zX8 bX8
                  refine hK.out _ _ ?_ (fun hHeld => ?_)
                  · (try dsimp only); exact ⟨K1.out _ DX8.out, K2.out _ DX8.out, K4.out _ DX8.out, K5.out _ DX8.out⟩
                  clear hK K
                  try simp only [List.getElem_toArray, List.getElem_cons_succ, List.getElem_cons_zero, Act.put, List.setIfInBounds_toArray, List.set_cons_zero, List.set_cons_succ]
                  refine wpAnyH_ready (rs := [10]) (by kernel_rfl) (by simp) ?_
                  refine (AllReadyH.cons (o := _) rfl (fun K hK => ?_) AllReadyH.nil)
                  go_simp
                  go_at_call 22
                  with_reducible refine (CA.out X8 DX8.out).mono ?_
                  rintro e X10 ⟨⟨r9, a9, n9, c9, rfl, h9⟩, DbX10⟩
                  have HA9 := hid h9
                  clear h9
                  have r11 := hid (row_on ZX8.out DbX10.out)
                  have DX10 := hid (btr DX8.out DbX10.out)
                  have UX10 := hid (DX8.out.size)
                  (try go_wp2_with fail)
                  refine hK.out _ _ ?_ (fun hHeld => ?_)
                  · (try dsimp only); exact ⟨K1.out _ DX10.out, K2.out _ DX10.out, K4.out _ DX10.out, K5.out _ DX10.out⟩
                  clear hK K
                  try simp only [List.getElem_toArray, List.getElem_cons_succ, List.getElem_cons_zero, Act.put, List.setIfInBounds_toArray, List.set_cons_zero, List.set_cons_succ]
                  refine' wpAnyH_take (i := 11) (oi := _) (v := _) rfl (by kernel_rfl) (by kernel_rfl) (by kernel_rfl) (fun _ _ _ h => h) (Or.inl ⟨by kernel_rfl, ?_⟩) (by assumption) ?_
                  rotate_left
                  · (intro w hSw; (try dsimp only at hSw); go_simp; try (with_reducible rfl))
                  try simp only [List.getElem_toArray, List.getElem_cons_succ, List.getElem_cons_zero, Act.put, List.setIfInBounds_toArray, List.set_cons_zero, List.set_cons_succ]
                  refine' wpAnyH_take (i := 12) (oi := _) (v := _) rfl (by kernel_rfl) (by kernel_rfl) (by kernel_rfl) (fun _ _ _ h => h) (Or.inl ⟨by kernel_rfl, ?_⟩) (by assumption) ?_
                  rotate_left
                  · (intro w hSw; (try dsimp only at hSw); go_simp; try (with_reducible rfl))
                  try simp only [List.getElem_toArray, List.getElem_cons_succ, List.getElem_cons_zero, Act.put, List.setIfInBounds_toArray, List.set_cons_zero, List.set_cons_succ]
                  refine' wpAnyH_take (i := 13) (oi := _) (v := _) rfl (by kernel_rfl) (by kernel_rfl) (by kernel_rfl) (fun _ _ _ h => h) (Or.inl ⟨by kernel_rfl, ?_⟩) (by assumption) ?_
                  rotate_left
                  · (intro w hSw; (try dsimp only at hSw); go_simp; try (with_reducible rfl))
                  try simp only [List.getElem_toArray, List.getElem_cons_succ, List.getElem_cons_zero, Act.put, List.setIfInBounds_toArray, List.set_cons_zero, List.set_cons_succ]
                  refine wpAnyH_ready (rs := [15]) (by kernel_rfl) (by simp) ?_
                  refine (AllReadyH.cons (o := _) rfl (fun K hK => ?_) AllReadyH.nil)
                  refine step_store_row (by rfl) 41 (.tmp 8) (.tmp 84) (by rfl) g9 #[.bool r9, .slice a9 n9 c9] (by rfl) (by rfl) 41 _ r11.out infoA2 (by rfl) (by simp [Value.oneCell']) ?_
                  obtain ⟨Y12, hY12⟩ : ∃ Y, X10.setRow g9 #[.bool r9, .slice a9 n9 c9] = Y := ⟨_, rfl⟩
                  have KY12 := hid (show Kp (fun j => j = g9) X10 Y12 from by rw [← hY12]; exact setRow_kp _ _ _)
                  have AY12 := hid (show Y12.heap[g9]? = some (.cells #[.bool r9, .slice a9 n9 c9] 41 (0, 0)) from by rw [← hY12]; exact setRow_heap X10 g9 _ _ 41 (0, 0) r11.out)
                  have DY12 := hid (show Below W.heap.size W Y12 from by rw [← hY12]; exact setRow_below DX10.out yg9)
                  have e13 := hid (am_dg HA9.out (Dg.kp KY12.out (e := 41) (by decide) (fun g _ h => by subst h; exact ⟨_, r11.out⟩)))
                  rw [hY12]
                  refine hK.out _ _ ?_ (fun hHeld => ?_)
                  · (try dsimp only); exact ⟨K1.out _ DY12.out, K2.out _ DY12.out, K4.out _ DY12.out, K5.out _ DY12.out⟩
                  clear hK K hY12
                  try simp only [List.getElem_toArray, List.getElem_cons_succ, List.getElem_cons_zero, Act.put, List.setIfInBounds_toArray, List.set_cons_zero, List.set_cons_succ]
                  refine' wpAnyH_take (i := 16) (oi := _) (v := _) rfl (by kernel_rfl) (by kernel_rfl) (by kernel_rfl) (fun _ _ _ h => h) (Or.inl ⟨by kernel_rfl, ?_⟩) (by assumption) ?_
                  rotate_left
                  · (intro w hSw; (try dsimp only at hSw); go_simp; try (with_reducible rfl))
                  try simp only [List.getElem_toArray, List.getElem_cons_succ, List.getElem_cons_zero, Act.put, List.setIfInBounds_toArray, List.set_cons_zero, List.set_cons_succ]
                  refine wpAnyH_done (by kernel_rfl) ?_ _
                  exact ⟨(g9, r9, a9, n9, c9), by kernel_rfl, DY12, AY12, e13, hid yg9⟩
              · rintro ⟨gx, rb, ra, rn, rc⟩ Y ⟨BY, X8, A8, L8⟩
                try simp only [List.getElem_toArray, List.getElem_cons_succ, List.getElem_cons_zero, Act.put, List.setIfInBounds_toArray, List.set_cons_zero, List.set_cons_succ]
                dsimp only at X8 A8 L8
                have BWY := hid (show Below b w Y from BbW.out.trans (BY.out.mono (by rw [← HB.out]; exact BbW.out.size)))
                have HOY := hid (own_on HOW.out BY.out)
                have HAY := hid (ams_on HAW.out BY.out)
                have x0 := row_cell X8.out 0
                have x1 := row_cell X8.out 1
                simp only [List.getElem?_toArray, List.getElem?_cons_succ, List.getElem?_cons_zero] at x0 x1
                have p1 := K1.out Y BY.out
                have p2 := K2.out Y BY.out
                have f1 := own_frz HOY.out (t * 3 + 1)
                have f2 := own_frz HOY.out (t * 3 + 2)
                rcases HER.out with e0 | e0
                · subst e0
                  go_upto_region 15 with fail
                  go_upto_region 4 with fail
                  obtain ⟨Z, hZ⟩ : ∃ Z, (Y.setCell ⟨G, t * 3 + 1, none⟩ (.bool rb)).setCell ⟨G, t * 3 + 2, none⟩ (.slice ra rn rc) = Z := ⟨_, rfl⟩
                  have KZ := hid (show Kp (fun j => j = G) Y Z from by rw [← hZ]; exact (Kp.set Y G _ _).trans (Kp.set _ G _ _) (fun g _ e => e))
                  have HOZ := hid (show Z.ownsRow b 54 3 (.slice (some ⟨G, 0, none⟩) K D) K (rcs (R ++ ⟨m, nv, rb, ra, rn, rc⟩ :: [])) from by
                    rw [← rcs_set R [] m (0) nv yb rb yp ra yn rn yc rc, HAL.out, ← hZ]
                    exact own_setc (own_setc HOY.out _ _) _ _)
                  have HDZ := hid (show Dg Y Z from Dg.kp KZ.out (e := 54) (by decide) (fun g _ e => by subst e; exact own_ty HOY.out rfl))
                  rw [hZ]
                  clear hZ x0 x1 p1 p2 f1 f2
                  go_wp2
                  go_roundw
                  case rel =>
                    refine ⟨i + 1, K, D, some ⟨G, 0, none⟩, R ++ ⟨m, nv, rb, ra, rn, rc⟩ :: [], upd f m nv, HLT.out, by go_num, rfl, hid ?_, HKI2, hid ?_, hid ?_, HOZ, hid ?_, hid ?_⟩
                    · rw [HKK.out, List.length_append, List.length_cons]; omega
                    · have := HRN.out nv HMV.out
                      unfold dmv at this ⊢
                      rw [List.map_append, List.map_cons]
                      exact this
                    · have h1 := HST.out
                      rw [if_pos rfl] at h1
                      rw [← h1]
                      exact HDU.out
                    · intro x hx
                      rcases List.mem_append.1 hx with hx | hx
                      · exact am_dg (HAY.out x (List.mem_append_left _ hx)) HDZ.out
                      · rcases List.mem_cons.1 hx with rfl | hx
                        · exact am_dg A8.out HDZ.out
                        · exact am_dg (HAY.out x (List.mem_append_right _ (List.mem_cons_of_mem _ hx))) HDZ.out
                    · exact BWY.out.trans (KZ.out.below (by rw [← HB.out]; exact BWY.out.size) (fun j hj e => by have := HGG.out.1; omega))
                  case measure => have := HLT.out; simp [intOf]; omega
                · subst e0
                  go_wp2
                  go_ret2
                  refine ⟨?_, BWY.out⟩
                  have h1 := HST.out
                  rw [if_neg (by decide)] at h1
                  have h2 := HDU.out
                  rw [← h2, show nea (⟨m, ii, bo, so, am, bv, xp, xn, xc⟩ :: l.drop (i + 1)) = (m, am) :: nea (l.drop (i + 1)) from rfl, h1]
                  rfl

            · obtain rfl : t = d := by omega
              go_upto_region 6 with fail
              go_big_quiet (fail)
              obtain ⟨V, hV⟩ : ∃ V, wr.drewN nq = V := ⟨_, rfl⟩
              have BV2 := hid (show Below wo.heap.size wo V from by rw [← hV]; exact btr BV.out (bdrew _ _))
              rw [hV]
              clear hV BV BWV c0
              go_upto_region 8 with fail
              go_big_quiet (fail)
              obtain ⟨V1, hV1⟩ : ∃ U, V.drewN nq = U := ⟨_, rfl⟩
              have BV3 := hid (show Below wo.heap.size wo V1 from by rw [← hV1]; exact btr BV2.out (bdrew _ _))
              rw [hV1]
              clear hV1 BV2
              obtain ⟨E0, hE0⟩ : ∃ E, V1.alloc (.cells #[] 54) = E := ⟨_, rfl⟩
              obtain ⟨g0, hg0⟩ : ∃ g, V1.heap.size = g := ⟨_, rfl⟩
              have HO0 := hid (show E0.ownsRow g0 54 3 (.slice (some ⟨g0, 0, none⟩) 0 0) 0 [] from by rw [← hE0, ← hg0]; exact own_empty V1 54 3)
              have BE0 := hid (show Below wo.heap.size wo E0 from btr BV3.out (by rw [← hE0]; exact ball _ _))
              have SG0 := hid (show wo.heap.size ≤ g0 from by rw [← hg0]; exact BV3.out.size)
              have SE0 := hid (show g0 ≤ E0.heap.size from by rw [← hE0, ← hg0]; exact (ball V1 _).size)
              have HE0 := hid hE0
              have Hg0 := hid hg0
              clear hE0 hg0 BV3
              go_upto_region 10 with (rw [HE0.out, Hg0.out]; at_builtin; refine Dm.wpList_app_rd (by rfl) (.tmp 52) (.tmp 55) 48 54 _ 3 40 (by rfl) Try.underlying48 infoR3 rfl (by decide) g0 _ 0 [] (by rfl) HO0.out (some ⟨g, 0, none⟩) t t (rcs R) (by rfl) (fun e => by cases e) (by rw [rcs_len, HAL.out]) (fun ad ea j u hu => by cases ea; exact rcs_take R [] _ g (own_on HOV.out BE0.out) j u hu) (rcs_one R) (by have := HLE.out; unfold maxLen; omega) (by have := HLE.out; omega) SE0.out ?_; intro v' E1 hown hgrow; obtain ⟨q1, d1, rfl⟩ := own_form hown; rw [Nat.zero_add, List.nil_append] at hown; have HO1 := hid hown; have HG1 := hid hgrow; clear hown hgrow)
              have BE1 := hid (show Below wo.heap.size wo E1 from BE0.out.grown HG1.out BE0.out.size (fun j hj => by have := (own_lo HO0.out hj).1; have := SG0.out; omega))
              have SG1 := hid (show g0 ≤ E1.heap.size from Nat.le_trans SE0.out HG1.out.size)
              have C0E := hid (show ∀ U, Below E1.heap.size E1 U → U.cell? ⟨z, off + i * 6, none⟩ = some (.int .u32 m) from fun U h => C0.out U (BW.out.trans ((btr BE1.out h).mono SB.out)))
              have CC := hid (show ∀ U : World, Calls Try.prog 28 #[.int .i64 0] U fun e w' => (∃ v, e = .returned v ∧ Dm.Am w' v 0) ∧ Below U.heap.size U w' from fun U => Dm.rcents_any 0 U (by decide) (by decide))
              obtain ⟨V20, hV20⟩ : ∃ U, E1.drew = U := ⟨_, rfl⟩
              have DV20 := hid (show Below E1.heap.size E1 V20 from by rw [← hV20]; exact bdrew1 _)
              have BV20 := hid (btr (Below.refl E1.heap.size E1) DV20.out)
              refine wp_region_held_drew (S := fun U => U.cell? ⟨z, off + i * 6, none⟩ = some (.int .u32 m)) (by kernel_rfl) ?_ (fun hHeld => ?_)
              · (try dsimp only); rw [hV20]; exact C0E.out _ BV20.out
              rw [hV20] at hHeld ⊢
              clear hV20
              refine' wpAnyH_take (i := 0) (oi := _) (v := _) rfl (by kernel_rfl) (by kernel_rfl) (by kernel_rfl) (fun _ _ _ h => h) (Or.inl ⟨by kernel_rfl, ?_⟩) (by assumption) ?_
              rotate_left
              · (intro w hSw; (try dsimp only at hSw); go_simp; try (with_reducible rfl))
              try simp only [List.getElem_toArray, List.getElem_cons_succ, List.getElem_cons_zero, Act.put, List.setIfInBounds_toArray, List.set_cons_zero, List.set_cons_succ]
              refine' wpAnyH_take (i := 1) (oi := _) (v := _) rfl (by kernel_rfl) (by kernel_rfl) (by kernel_rfl) (fun _ _ _ h => h) (Or.inl ⟨by kernel_rfl, ?_⟩) (by assumption) ?_
              rotate_left
              · (intro w hSw; (try dsimp only at hSw); go_simp; try (with_reducible rfl))
              try simp only [List.getElem_toArray, List.getElem_cons_succ, List.getElem_cons_zero, Act.put, List.setIfInBounds_toArray, List.set_cons_zero, List.set_cons_succ]
              refine' wpAnyH_take (i := 2) (oi := _) (v := _) rfl (by kernel_rfl) (by kernel_rfl) (by kernel_rfl) (fun _ _ _ h => h) (Or.inl ⟨by kernel_rfl, ?_⟩) (by assumption) ?_
              rotate_left
              · (intro w hSw; (try dsimp only at hSw); go_simp; try (with_reducible rfl))
              try simp only [List.getElem_toArray, List.getElem_cons_succ, List.getElem_cons_zero, Act.put, List.setIfInBounds_toArray, List.set_cons_zero, List.set_cons_succ]
              refine' wpAnyH_take (i := 3) (oi := _) (v := _) rfl (by kernel_rfl) (by kernel_rfl) (by kernel_rfl) (fun _ _ _ h => h) (Or.inl ⟨by kernel_rfl, ?_⟩) (by assumption) ?_
              rotate_left
              · (intro w hSw; (try dsimp only at hSw); go_simp; try (with_reducible rfl))
              try simp only [List.getElem_toArray, List.getElem_cons_succ, List.getElem_cons_zero, Act.put, List.setIfInBounds_toArray, List.set_cons_zero, List.set_cons_succ]
              refine' wpAnyH_take (i := 4) (oi := _) (v := _) rfl (by kernel_rfl) (by kernel_rfl) (by kernel_rfl) (fun _ _ _ h => h) (Or.inl ⟨by kernel_rfl, ?_⟩) (by assumption) ?_
              rotate_left
              · (intro w hSw; (try dsimp only at hSw); go_simp; try (with_reducible rfl))
              try simp only [List.getElem_toArray, List.getElem_cons_succ, List.getElem_cons_zero, Act.put, List.setIfInBounds_toArray, List.set_cons_zero, List.set_cons_succ]
              refine' wpAnyH_take (i := 5) (oi := _) (v := _) rfl (by kernel_rfl) (by kernel_rfl) (by kernel_rfl) (fun _ _ _ h => h) (Or.inl ⟨by kernel_rfl, ?_⟩) (by assumption) ?_
              rotate_left
              · (intro w hSw; (try dsimp only at hSw); go_simp; try (with_reducible rfl))
              try simp only [List.getElem_toArray, List.getElem_cons_succ, List.getElem_cons_zero, Act.put, List.setIfInBounds_toArray, List.set_cons_zero, List.set_cons_succ]
              refine wpAnyH_ready (rs := [6]) (by kernel_rfl) (by simp) ?_
              refine (AllReadyH.cons (o := _) rfl (fun K hK => ?_) AllReadyH.nil)
              go_simp
              go_at_call 28
              with_reducible refine (CC.out V20).mono ?_
              rintro e X21 ⟨⟨v0, rfl, ha0⟩, DbX21⟩
              have DX21 := hid (btr DV20.out DbX21)
              have BX21 := hid (btr BV20.out DbX21)
              obtain ⟨yb, yp, yn, yc, rfl⟩ := Dm.am_form ha0
              have HA0 := hid ha0
              clear ha0
              (try go_wp2_with fail)
              refine hK.out _ _ ?_ (fun hHeld => ?_)
              · (try dsimp only); exact C0E.out _ BX21.out
              clear hK K
              try simp only [List.getElem_toArray, List.getElem_cons_succ, List.getElem_cons_zero, Act.put, List.setIfInBounds_toArray, List.set_cons_zero, List.set_cons_succ]
              refine' wpAnyH_take (i := 7) (oi := _) (v := _) rfl (by kernel_rfl) (by kernel_rfl) (by kernel_rfl) (fun _ _ _ h => h) (Or.inl ⟨by kernel_rfl, ?_⟩) (by assumption) ?_
              rotate_left
              · (intro w hSw; (try dsimp only at hSw); go_simp; try (with_reducible rfl))
              try simp only [List.getElem_toArray, List.getElem_cons_succ, List.getElem_cons_zero, Act.put, List.setIfInBounds_toArray, List.set_cons_zero, List.set_cons_succ]
              refine wpAnyH_ready (rs := [8]) (by kernel_rfl) (by simp) ?_
              refine (AllReadyH.cons (o := _) rfl (fun K hK => ?_) AllReadyH.nil)
              go_simp
              obtain ⟨X2, hX2⟩ : ∃ X, X21.alloc (.cells #[.int .u32 m, .bool yb, .slice yp yn yc] 54) = X := ⟨_, rfl⟩
              obtain ⟨x2, hx2⟩ : ∃ x, X21.heap.size = x := ⟨_, rfl⟩
              have bX2 := hid (show Below X21.heap.size X21 X2 from by rw [← hX2]; exact ball _ _)
              have RX2 := hid (show X2.heap[x2]? = some (.cells #[.int .u32 m, .bool yb, .slice yp yn yc] 54 (0, 0)) from by rw [← hX2, ← hx2]; exact World.alloc_heap_new _ _)
              have BX2 := hid (btr BX21.out bX2.out)
              have HA2 := hid (HA0.out.on bX2.out)
              have HO2 := hid (own_on HO1.out BX2.out)
              have SX2 := hid (show g0 ≤ X2.heap.size from Nat.le_trans SG1.out BX2.out.size)
              rw [hX2, hx2]
              clear hX2 hx2
              refine hK.out _ _ ?_ (fun hHeld => ?_)
              · (try dsimp only); exact C0E.out _ BX2.out
              clear hK K
              try simp only [List.getElem_toArray, List.getElem_cons_succ, List.getElem_cons_zero, Act.put, List.setIfInBounds_toArray, List.set_cons_zero, List.set_cons_succ]
              refine wpAnyH_ready (rs := [9]) (by kernel_rfl) (by simp) ?_
              refine (AllReadyH.cons (o := _) rfl (fun K hK => ?_) AllReadyH.nil)
              refine step_app_rd (by rfl) (.tmp 57) (.tmp 65) 48 54 _ 3 40 (by rfl) Try.underlying48 infoR3 rfl (by decide) g0 _ t (rcs R) (by rfl) HO2.out ⟨x2, 0, none⟩ 1 1 [.int .u32 m, .bool yb, .slice yp yn yc] (by rfl) rfl (fun j u hu => row_rd RX2.out hu) (by simp [Value.oneCell']) (by have := HLE.out; unfold maxLen; omega) (by have := HLE.out; omega) SX2.out ?_
              intro v' E2 hown hgrow
              obtain ⟨q2, d2, rfl⟩ := own_form hown
              have HO3 := hid hown
              have HG3 := hid hgrow
              have BE2 := hid (show Below wo.heap.size wo E2 from (btr BE1.out BX2.out).grown HG3.out (btr BE1.out BX2.out).size (fun j hj => by have := (own_lo HO2.out hj).1; have := SG0.out; omega))
              have HA3 := hid (am_dg HA2.out (ownD HO2.out HG3.out (by decide)))
              clear hown hgrow
              refine hK.out _ _ ?_ (fun hHeld => ?_)
              · (try dsimp only); exact C0.out E2 (BW.out.trans (BE2.out.mono SB.out))
              clear hK K
              try simp only [List.getElem_toArray, List.getElem_cons_succ, List.getElem_cons_zero, Act.put, List.setIfInBounds_toArray, List.set_cons_zero, List.set_cons_succ]
              refine' wpAnyH_take (i := 10) (oi := _) (v := _) rfl (by kernel_rfl) (by kernel_rfl) (by kernel_rfl) (fun _ _ _ h => h) (Or.inl ⟨by kernel_rfl, ?_⟩) (by assumption) ?_
              rotate_left
              · (intro w hSw; (try dsimp only at hSw); go_simp; try (with_reducible rfl))
              try simp only [List.getElem_toArray, List.getElem_cons_succ, List.getElem_cons_zero, Act.put, List.setIfInBounds_toArray, List.set_cons_zero, List.set_cons_succ]
              refine wpAnyH_done (by kernel_rfl) ?_ _
              go_upto_region 12 with (at_builtin; refine Dm.wpList_app_rd (by rfl) (.tmp 67) (.tmp 70) 48 54 _ 3 40 (by rfl) Try.underlying48 infoR3 rfl (by decide) g0 _ (t + 1) _ (by rfl) HO3.out (some ⟨g, 0, none⟩) 0 0 (rcs []) (by rfl) (fun e => by cases e) (by rw [rcs_len, HBL.out]) (fun ad ea j u hu => by simp [rcs] at hu) (rcs_one []) (by have := HLE.out; have := HTKK.out; unfold maxLen; omega) (by have := HLE.out; have := HTKK.out; omega) (Nat.le_trans SX2.out HG3.out.size) ?_; intro v' W hown hgrow; rw [Nat.add_zero] at hown; obtain ⟨q3, D, rfl⟩ := own_form hown; have HO4 := hid hown; have HG4 := hid hgrow; clear hown hgrow)
              have BWo := hid (show Below wo.heap.size wo W from BE2.out.grown HG4.out BE2.out.size (fun j hj => by have := (own_lo HO3.out hj).1; have := SG0.out; omega))
              have HA4 := hid (am_dg HA3.out (ownD HO3.out HG4.out (by decide)))
              obtain ⟨K, hK⟩ : ∃ K, t + 1 = K := ⟨_, rfl⟩
              have HKK := hid (show K = R.length + 1 + ([] : List De).length from by rw [← hK, HAL.out, HBL.out])
              have HKI2 := hid (show K ≤ i + 1 from by have := HKI.out; have := HTKK.out; omega)
              rw [hK] at HO4
              try rw [hK]
              have HOW := hid (show W.ownsRow b 54 3 (.slice q3 K D) K (rcs (R ++ ⟨m, (0), yb, yp, yn, yc⟩ :: [])) from by
                have h1 := own_base HO4.out (Nat.le_trans SB.out SG0.out)
                rw [rcs_app, rcs_cons, ← List.append_assoc]
                exact h1)
              have HAW := hid (show ams W (R ++ ⟨m, (0), yb, yp, yn, yc⟩ :: []) from by
                intro x hx
                rcases List.mem_append.1 hx with hx | hx
                · exact (HAV.out x (List.mem_append_left _ hx)).on BWo.out
                · rcases List.mem_cons.1 hx with rfl | hx
                  · exact HA4.out
                  · exact (HAV.out x (List.mem_append_right _ hx)).on BWo.out)
              clear HO4 HA4 HO3 HG4 HG3 HA3 HO2 HA2 hK
              obtain ⟨G, hG, hGb, hGW⟩ := own_some HOW.out (by have := HKK.out; omega)
              subst hG
              have HGG := hid (And.intro hGb hGW)
              have BbW := hid (show Below b w W from BW.out.trans (BWo.out.mono SB.out))
              have HCW := hid (own_cap HOW.out)
              have K1 := hid (show ∀ U, Below W.heap.size W U → U.cell? ⟨G, t * 3 + 1, none⟩ = some (.bool yb) from fun U h => (h.cell (p := ⟨G, t * 3 + 1, none⟩) HGG.out.2).trans (by
                have h1 := (Dm.own_cells HOW.out).2 (R.length * 3 + 1) (.bool yb) (rcs_at R [] _ 1 (by decide))
                rw [Addr.add_lit, Nat.zero_add, HAL.out] at h1
                exact h1))
              have K2 := hid (show ∀ U, Below W.heap.size W U → U.cell? ⟨G, t * 3 + 2, none⟩ = some (.slice yp yn yc) from fun U h => (h.cell (p := ⟨G, t * 3 + 2, none⟩) HGG.out.2).trans (by
                have h1 := (Dm.own_cells HOW.out).2 (R.length * 3 + 2) (.slice yp yn yc) (rcs_at R [] _ 2 (by decide))
                rw [Addr.add_lit, Nat.zero_add, HAL.out] at h1
                exact h1))
              have K4 := hid (show ∀ U, Below W.heap.size W U → U.cell? ⟨z, off + i * 6 + 4, none⟩ = some (.bool bv) from fun U h => C4.out U (BbW.out.trans (h.mono (by rw [← HB.out]; exact BbW.out.size))))
              have K5 := hid (show ∀ U, Below W.heap.size W U → U.cell? ⟨z, off + i * 6 + 5, none⟩ = some (.slice xp xn xc) from fun U h => C5.out U (BbW.out.trans (h.mono (by rw [← HB.out]; exact BbW.out.size))))
              have AY := hid (show Dm.Am W (.agg #[.bool yb, .slice yp yn yc]) (0) from HAW.out ⟨m, (0), yb, yp, yn, yc⟩ (by simp))
              have HOVA := hid (show Amt (0) from by
                rw [← HOLD.out]
                cases e : f m with
                | none => exact ⟨by decide, by decide⟩
                | some v => exact (HR.out.ok (m, v) ((HR.out.iff m v HUM.out).1 e)).2)
              have CA := hid (show ∀ U, Below W.heap.size W U → Calls Try.prog 22 #[.agg #[.bool yb, .slice yp yn yc], .agg #[.bool bv, .slice xp xn xc]] U fun e w' => Dm.Ans w' e (maddV (0) am) (maddE (0) am) ∧ Hid (Below U.heap.size U w') from fun U h => Dm.radd_any _ _ (0) am U (AY.out.on h) (AX.out U (BbW.out.trans (h.mono (by rw [← HB.out]; exact BbW.out.size)))) HOVA.out HAMT.out)
              have HMV := hid (madd_amt (0) am)
              have HST := hid (show dues f ((m, am) :: nea (l.drop (i + 1))) = if maddE (0) am = 0 then dues (upd f m (maddV (0) am)) (nea (l.drop (i + 1))) else none from by rw [dues, HOLD.out])
              obtain ⟨er, her⟩ : ∃ x, maddE (0) am = x := ⟨_, rfl⟩
              obtain ⟨nv, hnv⟩ : ∃ x, maddV (0) am = x := ⟨_, rfl⟩
              have HER := hid (show er = 0 ∨ er = 10 from by rw [← her]; exact maddE_or _ _)
              rw [her, hnv] at CA HST
              rw [hnv] at HMV
              have t1 : (t : Int) < (K : Int) := by have := HKK.out; have := HAL.out; omega
              clear her hnv hGb hGW
              go_upto_region 12 with fail
              refine reg_cut (X := Nat × Bool × Option Addr × Nat × Nat) (fun a T9 => ((((((((((((((((a.put (some 73) (.slice (some ⟨G, 0, none⟩) K D)).put (some 74) (.int .i64 t)).put (some 75) (.pointer (some ⟨G, t * 3, none⟩))).put (some 76) (.pointer (some ⟨G, t * 3 + 1, none⟩))).put (some 77) (.agg #[.bool yb, .slice yp yn yc])).put (some 78) (.slice (some ⟨z, off, none⟩) n c)).put (some 79) (.int .i64 i)).put (some 80) (.pointer (some ⟨z, off + i * 6, none⟩))).put (some 81) (.pointer (some ⟨z, off + i * 6 + 4, none⟩))).put (some 82) (.agg #[.bool bv, .slice xp xn xc])).put (some 83) (.tuple #[.agg #[.bool T9.2.1, .slice T9.2.2.1 T9.2.2.2.1 T9.2.2.2.2], .int .i64 er])).put (some 72) (.tuple #[.agg #[.bool T9.2.1, .slice T9.2.2.1 T9.2.2.2.1 T9.2.2.2.2], .int .i64 er])).put (some 84) (.agg #[.bool T9.2.1, .slice T9.2.2.1 T9.2.2.2.1 T9.2.2.2.2])).put (some 85) (.int .i64 er)).put (some 8) (.pointer (some ⟨T9.1, 0, none⟩))).put (some 9) (.int .i64 er))) (fun T9 V9 => Hid (Below W.heap.size W V9) ∧ Hid (V9.heap[T9.1]? = some (.cells #[.bool T9.2.1, .slice T9.2.2.1 T9.2.2.2.1 T9.2.2.2.2] 41 (0, 0))) ∧ Hid (Dm.Am V9 (.agg #[.bool T9.2.1, .slice T9.2.2.1 T9.2.2.2.1 T9.2.2.2.2]) nv) ∧ Hid (W.heap.size ≤ T9.1)) ?_ ?_
              · obtain ⟨V1, hV1⟩ : ∃ U, W.drew = U := ⟨_, rfl⟩
                have BV1 := hid (show Below W.heap.size W V1 from by rw [← hV1]; exact bdrew1 _)
                refine wp_region_held_drew (S := (fun U => U.cell? ⟨G, t * 3 + 1, none⟩ = some (.bool yb) ∧ U.cell? ⟨G, t * 3 + 2, none⟩ = some (.slice yp yn yc) ∧ U.cell? ⟨z, off + i * 6 + 4, none⟩ = some (.bool bv) ∧ U.cell? ⟨z, off + i * 6 + 5, none⟩ = some (.slice xp xn xc))) (by kernel_rfl) ?_ (fun hHeld => ?_)
                · (try dsimp only); rw [hV1]; exact ⟨K1.out _ BV1.out, K2.out _ BV1.out, K4.out _ BV1.out, K5.out _ BV1.out⟩
                rw [hV1] at hHeld ⊢
                clear hV1
                refine' wpAnyH_take (i := 0) (oi := _) (v := _) rfl (by kernel_rfl) (by kernel_rfl) (by kernel_rfl) (fun _ _ _ h => h) (Or.inl ⟨by kernel_rfl, ?_⟩) (by assumption) ?_
                rotate_left
                · (intro w hSw; (try dsimp only at hSw); go_simp; try (with_reducible rfl))
                try simp only [List.getElem_toArray, List.getElem_cons_succ, List.getElem_cons_zero, Act.put, List.setIfInBounds_toArray, List.set_cons_zero, List.set_cons_succ]
                refine' wpAnyH_take (i := 1) (oi := _) (v := _) rfl (by kernel_rfl) (by kernel_rfl) (by kernel_rfl) (fun _ _ _ h => h) (Or.inl ⟨by kernel_rfl, ?_⟩) (by assumption) ?_
                rotate_left
                · (intro w hSw; (try dsimp only at hSw); go_simp; try (with_reducible rfl))
                try simp only [List.getElem_toArray, List.getElem_cons_succ, List.getElem_cons_zero, Act.put, List.setIfInBounds_toArray, List.set_cons_zero, List.set_cons_succ]
                refine' wpAnyH_take (i := 2) (oi := _) (v := _) rfl (by kernel_rfl) (by kernel_rfl) (by kernel_rfl) (fun _ _ _ h => h) (Or.inl ⟨by kernel_rfl, ?_⟩) (by assumption) ?_
                rotate_left
                · (intro w hSw; (try dsimp only at hSw); go_simp; try (with_reducible rfl))
                try simp only [List.getElem_toArray, List.getElem_cons_succ, List.getElem_cons_zero, Act.put, List.setIfInBounds_toArray, List.set_cons_zero, List.set_cons_succ]
                refine' wpAnyH_take (i := 3) (oi := _) (v := _) rfl (by kernel_rfl) (by kernel_rfl) (by kernel_rfl) (fun _ _ _ h => h) (Or.inl ⟨by kernel_rfl, ?_⟩) (by assumption) ?_
                rotate_left
                · (intro w hSw; (try dsimp only at hSw); go_simp; try (with_reducible rfl))
                try simp only [List.getElem_toArray, List.getElem_cons_succ, List.getElem_cons_zero, Act.put, List.setIfInBounds_toArray, List.set_cons_zero, List.set_cons_succ]
                refine' wpAnyH_take (i := 4) (oi := _) (v := _) rfl (by kernel_rfl) (by kernel_rfl) (by kernel_rfl) (fun _ _ _ h => h) (Or.inl ⟨by kernel_rfl, ?_⟩) (by assumption) ?_
                rotate_left
                · (intro w hSw; (try dsimp only at hSw); go_simp; try (with_reducible rfl))
                try simp only [List.getElem_toArray, List.getElem_cons_succ, List.getElem_cons_zero, Act.put, List.setIfInBounds_toArray, List.set_cons_zero, List.set_cons_succ]
                refine' wpAnyH_take (i := 5) (oi := _) (v := _) rfl (by kernel_rfl) (by kernel_rfl) (by kernel_rfl) (fun _ _ _ h => h) (Or.inl ⟨by kernel_rfl, ?_⟩) (by assumption) ?_
                rotate_left
                · (intro w hSw; (try dsimp only at hSw); go_simp; try (with_reducible rfl))
                try simp only [List.getElem_toArray, List.getElem_cons_succ, List.getElem_cons_zero, Act.put, List.setIfInBounds_toArray, List.set_cons_zero, List.set_cons_succ]
                refine' wpAnyH_take (i := 6) (oi := _) (v := _) rfl (by kernel_rfl) (by kernel_rfl) (by kernel_rfl) (fun _ _ _ h => h) (Or.inl ⟨by kernel_rfl, ?_⟩) (by assumption) ?_
                rotate_left
                · (intro w hSw; (try dsimp only at hSw); go_simp; try (with_reducible rfl))
                try simp only [List.getElem_toArray, List.getElem_cons_succ, List.getElem_cons_zero, Act.put, List.setIfInBounds_toArray, List.set_cons_zero, List.set_cons_succ]
                refine' wpAnyH_take (i := 7) (oi := _) (v := _) rfl (by kernel_rfl) (by kernel_rfl) (by kernel_rfl) (fun _ _ _ h => h) (Or.inl ⟨by kernel_rfl, ?_⟩) (by assumption) ?_
                rotate_left
                · (intro w hSw; (try dsimp only at hSw); go_simp; try (with_reducible rfl))
                try simp only [List.getElem_toArray, List.getElem_cons_succ, List.getElem_cons_zero, Act.put, List.setIfInBounds_toArray, List.set_cons_zero, List.set_cons_succ]
                refine' wpAnyH_take (i := 8) (oi := _) (v := _) rfl (by kernel_rfl) (by kernel_rfl) (by kernel_rfl) (fun _ _ _ h => h) (Or.inl ⟨by kernel_rfl, ?_⟩) (by assumption) ?_
                rotate_left
                · (intro w hSw; (try dsimp only at hSw); go_simp; try (with_reducible rfl))
                try simp only [List.getElem_toArray, List.getElem_cons_succ, List.getElem_cons_zero, Act.put, List.setIfInBounds_toArray, List.set_cons_zero, List.set_cons_succ]
                refine' wpAnyH_take (i := 9) (oi := _) (v := _) rfl (by kernel_rfl) (by kernel_rfl) (by kernel_rfl) (fun _ _ _ h => h) (Or.inl ⟨by kernel_rfl, ?_⟩) (by assumption) ?_
                rotate_left
                · (intro w hSw; (try dsimp only at hSw); go_simp; try (with_reducible rfl))
                try simp only [List.getElem_toArray, List.getElem_cons_succ, List.getElem_cons_zero, Act.put, List.setIfInBounds_toArray, List.set_cons_zero, List.set_cons_succ]
                refine wpAnyH_ready (rs := [10, 14]) (by kernel_rfl) (by simp) ?_
                refine (AllReadyH.cons (o := _) rfl (fun K hK => ?_) (AllReadyH.cons (o := _) rfl (fun K hK => ?_) AllReadyH.nil))
                · go_simp
                  go_at_call 22
                  with_reducible refine (CA.out V1 BV1.out).mono ?_
                  rintro e X2 ⟨⟨r9, a9, n9, c9, rfl, h9⟩, DbX2⟩
                  have HA9 := hid h9
                  clear h9
                  have DX2 := hid (btr BV1.out DbX2.out)
                  have UX2 := hid (BV1.out.size)
                  (try go_wp2_with fail)
                  refine hK.out _ _ ?_ (fun hHeld => ?_)
                  · (try dsimp only); exact ⟨K1.out _ DX2.out, K2.out _ DX2.out, K4.out _ DX2.out, K5.out _ DX2.out⟩
                  clear hK K
                  try simp only [List.getElem_toArray, List.getElem_cons_succ, List.getElem_cons_zero, Act.put, List.setIfInBounds_toArray, List.set_cons_zero, List.set_cons_succ]
                  refine' wpAnyH_take (i := 11) (oi := _) (v := _) rfl (by kernel_rfl) (by kernel_rfl) (by kernel_rfl) (fun _ _ _ h => h) (Or.inl ⟨by kernel_rfl, ?_⟩) (by assumption) ?_
                  rotate_left
                  · (intro w hSw; (try dsimp only at hSw); go_simp; try (with_reducible rfl))
                  try simp only [List.getElem_toArray, List.getElem_cons_succ, List.getElem_cons_zero, Act.put, List.setIfInBounds_toArray, List.set_cons_zero, List.set_cons_succ]
                  refine' wpAnyH_take (i := 12) (oi := _) (v := _) rfl (by kernel_rfl) (by kernel_rfl) (by kernel_rfl) (fun _ _ _ h => h) (Or.inl ⟨by kernel_rfl, ?_⟩) (by assumption) ?_
                  rotate_left
                  · (intro w hSw; (try dsimp only at hSw); go_simp; try (with_reducible rfl))
                  try simp only [List.getElem_toArray, List.getElem_cons_succ, List.getElem_cons_zero, Act.put, List.setIfInBounds_toArray, List.set_cons_zero, List.set_cons_succ]
                  refine' wpAnyH_take (i := 13) (oi := _) (v := _) rfl (by kernel_rfl) (by kernel_rfl) (by kernel_rfl) (fun _ _ _ h => h) (Or.inl ⟨by kernel_rfl, ?_⟩) (by assumption) ?_
                  rotate_left
                  · (intro w hSw; (try dsimp only at hSw); go_simp; try (with_reducible rfl))
                  try simp only [List.getElem_toArray, List.getElem_cons_succ, List.getElem_cons_zero, Act.put, List.setIfInBounds_toArray, List.set_cons_zero, List.set_cons_succ]
                  refine wpAnyH_ready (rs := [14]) (by kernel_rfl) (by simp) ?_
                  refine (AllReadyH.cons (o := _) rfl (fun K hK => ?_) AllReadyH.nil)
                  go_simp
                  obtain ⟨X3, hX3⟩ : ∃ X, X2.alloc (.cells #[.bool false, .slice none 0 0] 41) = X := ⟨_, rfl⟩
                  have bX3 : Below X2.heap.size X2 X3 := by rw [← hX3]; exact ball _ _
                  have e5 := hid (HA9.out.on bX3)
                  have DX3 := hid (btr DX2.out bX3)
                  have zX3 : X3.heap[X2.heap.size]? = some (.cells #[.bool false, .slice none 0 0] 41 (0, 0)) := by rw [← hX3]; exact World.alloc_heap_new _ _
                  have yg4 := DX2.out.size
                  obtain ⟨g4, hg4⟩ : ∃ g, X2.heap.size = g := ⟨_, rfl⟩
                  rw [hg4] at zX3 yg4
                  have ZX3 := hid zX3
                  rw [hX3, hg4]
                  clear hX3 hg4 zX3 bX3
                  refine hK.out _ _ ?_ (fun hHeld => ?_)
                  · (try dsimp only); exact ⟨K1.out _ DX3.out, K2.out _ DX3.out, K4.out _ DX3.out, K5.out _ DX3.out⟩
                  clear hK K
                  try simp only [List.getElem_toArray, List.getElem_cons_succ, List.getElem_cons_zero, Act.put, List.setIfInBounds_toArray, List.set_cons_zero, List.set_cons_succ]
                  refine wpAnyH_ready (rs := [15]) (by kernel_rfl) (by simp) ?_
                  refine (AllReadyH.cons (o := _) rfl (fun K hK => ?_) AllReadyH.nil)
                  refine step_store_row (by rfl) 41 (.tmp 8) (.tmp 84) (by rfl) g4 #[.bool r9, .slice a9 n9 c9] (by rfl) (by rfl) 41 _ ZX3.out infoA2 (by rfl) (by simp [Value.oneCell']) ?_
                  obtain ⟨Y6, hY6⟩ : ∃ Y, X3.setRow g4 #[.bool r9, .slice a9 n9 c9] = Y := ⟨_, rfl⟩
                  have KY6 := hid (show Kp (fun j => j = g4) X3 Y6 from by rw [← hY6]; exact setRow_kp _ _ _)
                  have AY6 := hid (show Y6.heap[g4]? = some (.cells #[.bool r9, .slice a9 n9 c9] 41 (0, 0)) from by rw [← hY6]; exact setRow_heap X3 g4 _ _ 41 (0, 0) ZX3.out)
                  have DY6 := hid (show Below W.heap.size W Y6 from by rw [← hY6]; exact setRow_below DX3.out yg4)
                  have e7 := hid (am_dg e5.out (Dg.kp KY6.out (e := 41) (by decide) (fun g _ h => by subst h; exact ⟨_, ZX3.out⟩)))
                  rw [hY6]
                  refine hK.out _ _ ?_ (fun hHeld => ?_)
                  · (try dsimp only); exact ⟨K1.out _ DY6.out, K2.out _ DY6.out, K4.out _ DY6.out, K5.out _ DY6.out⟩
                  clear hK K hY6
                  try simp only [List.getElem_toArray, List.getElem_cons_succ, List.getElem_cons_zero, Act.put, List.setIfInBounds_toArray, List.set_cons_zero, List.set_cons_succ]
                  refine' wpAnyH_take (i := 16) (oi := _) (v := _) rfl (by kernel_rfl) (by kernel_rfl) (by kernel_rfl) (fun _ _ _ h => h) (Or.inl ⟨by kernel_rfl, ?_⟩) (by assumption) ?_
                  rotate_left
                  · (intro w hSw; (try dsimp only at hSw); go_simp; try (with_reducible rfl))
                  try simp only [List.getElem_toArray, List.getElem_cons_succ, List.getElem_cons_zero, Act.put, List.setIfInBounds_toArray, List.set_cons_zero, List.set_cons_succ]
                  refine wpAnyH_done (by kernel_rfl) ?_ _
                  exact ⟨(g4, r9, a9, n9, c9), by kernel_rfl, DY6, AY6, e7, hid yg4⟩
                · go_simp
                  obtain ⟨X8, hX8⟩ : ∃ X, V1.alloc (.cells #[.bool false, .slice none 0 0] 41) = X := ⟨_, rfl⟩
                  have bX8 : Below V1.heap.size V1 X8 := by rw [← hX8]; exact ball _ _
                  have DX8 := hid (btr BV1.out bX8)
                  have zX8 : X8.heap[V1.heap.size]? = some (.cells #[.bool false, .slice none 0 0] 41 (0, 0)) := by rw [← hX8]; exact World.alloc_heap_new _ _
                  have yg9 := BV1.out.size
                  obtain ⟨g9, hg9⟩ : ∃ g, V1.heap.size = g := ⟨_, rfl⟩
                  rw [hg9] at zX8 yg9
                  have ZX8 := hid zX8
                  rw [hX8, hg9]
                  clear hX8 hg9 zX8 bX8
                  refine hK.out _ _ ?_ (fun hHeld => ?_)
                  · (try dsimp only); exact ⟨K1.out _ DX8.out, K2.out _ DX8.out, K4.out _ DX8.out, K5.out _ DX8.out⟩
                  clear hK K
                  try simp only [List.getElem_toArray, List.getElem_cons_succ, List.getElem_cons_zero, Act.put, List.setIfInBounds_toArray, List.set_cons_zero, List.set_cons_succ]
                  refine wpAnyH_ready (rs := [10]) (by kernel_rfl) (by simp) ?_
                  refine (AllReadyH.cons (o := _) rfl (fun K hK => ?_) AllReadyH.nil)
                  go_simp
                  go_at_call 22
                  with_reducible refine (CA.out X8 DX8.out).mono ?_
                  rintro e X10 ⟨⟨r9, a9, n9, c9, rfl, h9⟩, DbX10⟩
                  have HA9 := hid h9
                  clear h9
                  have r11 := hid (row_on ZX8.out DbX10.out)
                  have DX10 := hid (btr DX8.out DbX10.out)
                  have UX10 := hid (DX8.out.size)
                  (try go_wp2_with fail)
                  refine hK.out _ _ ?_ (fun hHeld => ?_)
                  · (try dsimp only); exact ⟨K1.out _ DX10.out, K2.out _ DX10.out, K4.out _ DX10.out, K5.out _ DX10.out⟩
                  clear hK K
                  try simp only [List.getElem_toArray, List.getElem_cons_succ, List.getElem_cons_zero, Act.put, List.setIfInBounds_toArray, List.set_cons_zero, List.set_cons_succ]
                  refine' wpAnyH_take (i := 11) (oi := _) (v := _) rfl (by kernel_rfl) (by kernel_rfl) (by kernel_rfl) (fun _ _ _ h => h) (Or.inl ⟨by kernel_rfl, ?_⟩) (by assumption) ?_
                  rotate_left
                  · (intro w hSw; (try dsimp only at hSw); go_simp; try (with_reducible rfl))
                  try simp only [List.getElem_toArray, List.getElem_cons_succ, List.getElem_cons_zero, Act.put, List.setIfInBounds_toArray, List.set_cons_zero, List.set_cons_succ]
                  refine' wpAnyH_take (i := 12) (oi := _) (v := _) rfl (by kernel_rfl) (by kernel_rfl) (by kernel_rfl) (fun _ _ _ h => h) (Or.inl ⟨by kernel_rfl, ?_⟩) (by assumption) ?_
                  rotate_left
                  · (intro w hSw; (try dsimp only at hSw); go_simp; try (with_reducible rfl))
                  try simp only [List.getElem_toArray, List.getElem_cons_succ, List.getElem_cons_zero, Act.put, List.setIfInBounds_toArray, List.set_cons_zero, List.set_cons_succ]
                  refine' wpAnyH_take (i := 13) (oi := _) (v := _) rfl (by kernel_rfl) (by kernel_rfl) (by kernel_rfl) (fun _ _ _ h => h) (Or.inl ⟨by kernel_rfl, ?_⟩) (by assumption) ?_
                  rotate_left
                  · (intro w hSw; (try dsimp only at hSw); go_simp; try (with_reducible rfl))
                  try simp only [List.getElem_toArray, List.getElem_cons_succ, List.getElem_cons_zero, Act.put, List.setIfInBounds_toArray, List.set_cons_zero, List.set_cons_succ]
                  refine wpAnyH_ready (rs := [15]) (by kernel_rfl) (by simp) ?_
                  refine (AllReadyH.cons (o := _) rfl (fun K hK => ?_) AllReadyH.nil)
                  refine step_store_row (by rfl) 41 (.tmp 8) (.tmp 84) (by rfl) g9 #[.bool r9, .slice a9 n9 c9] (by rfl) (by rfl) 41 _ r11.out infoA2 (by rfl) (by simp [Value.oneCell']) ?_
                  obtain ⟨Y12, hY12⟩ : ∃ Y, X10.setRow g9 #[.bool r9, .slice a9 n9 c9] = Y := ⟨_, rfl⟩
                  have KY12 := hid (show Kp (fun j => j = g9) X10 Y12 from by rw [← hY12]; exact setRow_kp _ _ _)
                  have AY12 := hid (show Y12.heap[g9]? = some (.cells #[.bool r9, .slice a9 n9 c9] 41 (0, 0)) from by rw [← hY12]; exact setRow_heap X10 g9 _ _ 41 (0, 0) r11.out)
                  have DY12 := hid (show Below W.heap.size W Y12 from by rw [← hY12]; exact setRow_below DX10.out yg9)
                  have e13 := hid (am_dg HA9.out (Dg.kp KY12.out (e := 41) (by decide) (fun g _ h => by subst h; exact ⟨_, r11.out⟩)))
                  rw [hY12]
                  refine hK.out _ _ ?_ (fun hHeld => ?_)
                  · (try dsimp only); exact ⟨K1.out _ DY12.out, K2.out _ DY12.out, K4.out _ DY12.out, K5.out _ DY12.out⟩
                  clear hK K hY12
                  try simp only [List.getElem_toArray, List.getElem_cons_succ, List.getElem_cons_zero, Act.put, List.setIfInBounds_toArray, List.set_cons_zero, List.set_cons_succ]
                  refine' wpAnyH_take (i := 16) (oi := _) (v := _) rfl (by kernel_rfl) (by kernel_rfl) (by kernel_rfl) (fun _ _ _ h => h) (Or.inl ⟨by kernel_rfl, ?_⟩) (by assumption) ?_
                  rotate_left
                  · (intro w hSw; (try dsimp only at hSw); go_simp; try (with_reducible rfl))
                  try simp only [List.getElem_toArray, List.getElem_cons_succ, List.getElem_cons_zero, Act.put, List.setIfInBounds_toArray, List.set_cons_zero, List.set_cons_succ]
                  refine wpAnyH_done (by kernel_rfl) ?_ _
                  exact ⟨(g9, r9, a9, n9, c9), by kernel_rfl, DY12, AY12, e13, hid yg9⟩
              · rintro ⟨gx, rb, ra, rn, rc⟩ Y ⟨BY, X8, A8, L8⟩
                try simp only [List.getElem_toArray, List.getElem_cons_succ, List.getElem_cons_zero, Act.put, List.setIfInBounds_toArray, List.set_cons_zero, List.set_cons_succ]
                dsimp only at X8 A8 L8
                have BWY := hid (show Below b w Y from BbW.out.trans (BY.out.mono (by rw [← HB.out]; exact BbW.out.size)))
                have HOY := hid (own_on HOW.out BY.out)
                have HAY := hid (ams_on HAW.out BY.out)
                have x0 := row_cell X8.out 0
                have x1 := row_cell X8.out 1
                simp only [List.getElem?_toArray, List.getElem?_cons_succ, List.getElem?_cons_zero] at x0 x1
                have p1 := K1.out Y BY.out
                have p2 := K2.out Y BY.out
                have f1 := own_frz HOY.out (t * 3 + 1)
                have f2 := own_frz HOY.out (t * 3 + 2)
                rcases HER.out with e0 | e0
                · subst e0
                  go_upto_region 15 with fail
                  go_upto_region 4 with fail
                  obtain ⟨Z, hZ⟩ : ∃ Z, (Y.setCell ⟨G, t * 3 + 1, none⟩ (.bool rb)).setCell ⟨G, t * 3 + 2, none⟩ (.slice ra rn rc) = Z := ⟨_, rfl⟩
                  have KZ := hid (show Kp (fun j => j = G) Y Z from by rw [← hZ]; exact (Kp.set Y G _ _).trans (Kp.set _ G _ _) (fun g _ e => e))
                  have HOZ := hid (show Z.ownsRow b 54 3 (.slice (some ⟨G, 0, none⟩) K D) K (rcs (R ++ ⟨m, nv, rb, ra, rn, rc⟩ :: [])) from by
                    rw [← rcs_set R [] m (0) nv yb rb yp ra yn rn yc rc, HAL.out, ← hZ]
                    exact own_setc (own_setc HOY.out _ _) _ _)
                  have HDZ := hid (show Dg Y Z from Dg.kp KZ.out (e := 54) (by decide) (fun g _ e => by subst e; exact own_ty HOY.out rfl))
                  rw [hZ]
                  clear hZ x0 x1 p1 p2 f1 f2
                  go_wp2
                  go_roundw
                  case rel =>
                    refine ⟨i + 1, K, D, some ⟨G, 0, none⟩, R ++ ⟨m, nv, rb, ra, rn, rc⟩ :: [], upd f m nv, HLT.out, by go_num, rfl, hid ?_, HKI2, hid ?_, hid ?_, HOZ, hid ?_, hid ?_⟩
                    · rw [HKK.out, List.length_append, List.length_cons]; omega
                    · have := HRN.out nv HMV.out
                      unfold dmv at this ⊢
                      rw [List.map_append, List.map_cons]
                      exact this
                    · have h1 := HST.out
                      rw [if_pos rfl] at h1
                      rw [← h1]
                      exact HDU.out
                    · intro x hx
                      rcases List.mem_append.1 hx with hx | hx
                      · exact am_dg (HAY.out x (List.mem_append_left _ hx)) HDZ.out
                      · rcases List.mem_cons.1 hx with rfl | hx
                        · exact am_dg A8.out HDZ.out
                        · exact am_dg (HAY.out x (List.mem_append_right _ (List.mem_cons_of_mem _ hx))) HDZ.out
                    · exact BWY.out.trans (KZ.out.below (by rw [← HB.out]; exact BWY.out.size) (fun j hj e => by have := HGG.out.1; omega))
                  case measure => have := HLT.out; simp [intOf]; omega
                · subst e0
                  go_wp2
                  go_ret2
                  refine ⟨?_, BWY.out⟩
                  have h1 := HST.out
                  rw [if_neg (by decide)] at h1
                  have h2 := HDU.out
                  rw [← h2, show nea (⟨m, ii, bo, so, am, bv, xp, xn, xc⟩ :: l.drop (i + 1)) = (m, am) :: nea (l.drop (i + 1)) from rfl, h1]
                  rfl

    · obtain rfl : i = n := by omega
      have jn : ¬ (i : Int) < (i : Int) := by omega
      have HDE := hid (show dues (fun _ => none) (nea l) = some f from by
        have h1 := HDU.out
        rw [show l.drop i = [] from List.drop_eq_nil_of_le (by rw [HN.out]; exact Nat.le_refl _)] at h1
        rw [← h1]; rfl)
      clear hlt hin
      go_wp2
      go_ret2
      refine ⟨?_, BW.out⟩
      rw [HDE.out]
      exact ⟨R, q, d, k, HK.out, rfl, HR.out, HO.out, HA.out⟩
end Go.Proofs.Ytegdhffejmbakaa.Ac
