/-
  The document's words of an amount.
-/
import Derived.Test.YthikjpccmplbiaaDmD
import Derived.OwnWalk
import Derived.Laws.AppendOwnNone
import Derived.ArgAppend
import Derived.Laws.DeepNot64
namespace Go.Proofs.Ythikjpccmplbiaa.Dm
open Go.RowKit Go.Deep BigM MonM TexM ParM
set_option linter.unusedVariables false
set_option linter.unusedSimpArgs false
set_option maxHeartbeats 8000000
set_option maxRecDepth 100000
attribute [local go_sem ↓] Go.wp_at_zero Go.wp_at_succ
theorem grown_refl (w : World) (r : Option Nat) : w.grownBy w r := ⟨rfl, rfl, rfl, Nat.le_refl _, fun _ _ _ => rfl⟩
theorem own_same {base : Nat} {w w' : World} {e : TypeId} {size n : Nat} {v : Value} {xs : List Value} (h : w.ownsRow base e size v n xs) (hs : ∀ g, v.ownBlock = some g → w'.heap[g]? = w.heap[g]?) : w'.ownsRow base e size v n xs := by
  obtain ⟨h1, h2 | ⟨g, c, cur, rfl, r1, r2, r⟩⟩ := h
  · exact ⟨h1, .inl h2⟩
  · exact ⟨h1, .inr ⟨g, c, cur, rfl, r1, (hs g rfl).trans r2, r⟩⟩
theorem own_ty {base : Nat} {w : World} {e : TypeId} {size n : Nat} {v : Value} {xs : List Value} (h : w.ownsRow base e size v n xs) {g : Nat} (hg : v.ownBlock = some g) : ∃ cur, w.heap[g]? = some (.cells cur e (0, 0)) := by
  obtain ⟨h1, ⟨rfl, _⟩ | ⟨g', c, cur, rfl, r1, r2, r⟩⟩ := h
  · cases hg
  · cases hg; exact ⟨cur, r2⟩
theorem own_on {base : Nat} {w w' : World} {e : TypeId} {size n : Nat} {v : Value} {xs : List Value} (h : w.ownsRow base e size v n xs) (hb : Below w.heap.size w w') : w'.ownsRow base e size v n xs :=
  own_same h (fun g hg => by obtain ⟨c, e⟩ := own_ty h hg; exact hb.block g (row_lt e))
theorem own_form {base : Nat} {w : World} {e : TypeId} {size n : Nat} {v : Value} {xs : List Value} (h : w.ownsRow base e size v n xs) : ∃ p c, v = .slice p n c := by
  obtain ⟨_, ⟨rfl, rfl⟩ | ⟨g, c, cur, rfl, _⟩⟩ := h
  · exact ⟨none, 0, rfl⟩
  · exact ⟨_, _, rfl⟩
theorem own_cells {base : Nat} {w : World} {e : TypeId} {size n c : Nat} {ad : Addr} {xs : List Value} (h : w.ownsRow base e size (.slice (some ad) n c) n xs) : xs.length = n * size ∧ ∀ j u, xs[j]? = some u → w.cell? (ad.add j) = some u := by
  obtain ⟨h1, ⟨e', e2⟩ | ⟨g, c', cur, e', r1, r2, r3, r4, r5, r6⟩⟩ := h
  · cases (Value.slice.inj e').1
  · obtain ⟨e3, _, rfl⟩ := Value.slice.inj e'
    injection e3 with e3
    subst e3
    refine ⟨h1, fun j u hj => ?_⟩
    rw [Addr.add_lit, Nat.zero_add, row_cell r2]
    have hl := (List.getElem?_eq_some_iff.1 hj).1
    have := congrArg (fun z => z[j]?) r6
    simp only [List.getElem?_take, show j < n * size by omega, if_true, Array.getElem?_toList] at this
    rw [this, hj]
theorem info_parts9 {e : TypeId} {z : Value} {size bytes : Nat} (h : (Try.prog.info? e).map (fun i => (i.zero, i.size, i.bytes)) = some (some z, size, bytes)) : ∃ i0, Try.prog.info? e = some i0 ∧ i0.zero = some z ∧ i0.size = size ∧ i0.bytes = bytes := by
  cases hq : Try.prog.info? e with
  | none => rw [hq] at h; cases h
  | some i =>
    rw [hq] at h
    simp only [Option.map_some, Option.some.injEq, Prod.mk.injEq] at h
    exact ⟨i, rfl, h.1, h.2.1, h.2.2⟩
theorem wpList_app_rd {w : World} {ops : Array Oper} {rest : List Oper} {oo : Oper} {a : Act} {Q : Exit → Act → World → Prop} (hgd : oo.guard = none) (s x : Operand) (t e : TypeId) (z : Value) (size bytes : Nat)
    (ho : oo.op = .call { callee := .builtin .append, args := #[s, x], argTypes := #[t, t] }) (ht : Try.prog.underlying t = some (.slice e)) (hinf : (Try.prog.info? e).map (fun i => (i.zero, i.size, i.bytes)) = some (some z, size, bytes)) (hzs : z.cells.size = size) (hsz : 0 < size)
    (base : Nat) (v : Value) (n : Nat) (ys : List Value) (hs : a.eval s = v) (hown : w.ownsRow base e size v n ys)
    (q : Option Addr) (c m : Nat) (xs : List Value) (hx : a.eval x = .slice q m c) (hq : q = none → m = 0 ∧ c = 0) (hln : xs.length = m * size) (hrd : ∀ ad, q = some ad → ∀ j u, xs[j]? = some u → w.cell? (ad.add j) = some u) (h1 : ∀ u ∈ xs, u.oneCell' = true)
    (h63 : n + m ≤ maxLen) (hbytes : (n + m) * bytes ≤ 140737488355328) (hbase : base ≤ w.heap.size)
    (h : ∀ v' w', w'.ownsRow base e size v' (n + m) (ys ++ xs) → w.grownBy w' v.ownBlock → wpList Try.prog ops Q rest (a.put oo.dst v') w') : wpList Try.prog ops Q (oo :: rest) a w := by
  obtain ⟨i0, hi, hz0, hz1, hz2⟩ := info_parts9 hinf
  cases q with
  | none =>
    obtain ⟨rfl, rfl⟩ := hq rfl
    obtain rfl : xs = [] := List.length_eq_zero_iff.1 (by simpa using hln)
    exact wpList_append_own_none hgd s x t ho base e i0 size ht hi v n ys hs hown hx (h v w (by simpa using hown) (grown_refl _ _))
  | some ad =>
    exact wpList_append_own _ hgd s x t ho base e i0 _ size bytes ht hi hz0 hz1 hz2 hzs hsz v n ys hs hown ad m c xs hx hln (hrd ad rfl) h1 h63 hbytes hbase (fun v' w' h2 h3 _ => h v' w' h2 h3)
theorem own_ge {base : Nat} {w : World} {e : TypeId} {size n : Nat} {v : Value} {xs : List Value} (h : w.ownsRow base e size v n xs) : ∀ g, v.ownBlock = some g → base ≤ g := fun g hg => by
  obtain ⟨_, ⟨rfl, _⟩ | ⟨g', c, cur, rfl, r1, _⟩⟩ := h
  · cases hg
  · simp [Value.ownBlock] at hg; omega
theorem own_mono {a b : Nat} {w : World} {e : TypeId} {size n : Nat} {v : Value} {xs : List Value} (h : w.ownsRow b e size v n xs) (hab : a ≤ b) : w.ownsRow a e size v n xs := by
  obtain ⟨h1, h2 | ⟨g, c, cur, rfl, r1, r⟩⟩ := h
  · exact ⟨h1, .inl h2⟩
  · exact ⟨h1, .inr ⟨g, c, cur, rfl, Nat.le_trans hab r1, r⟩⟩
theorem infoD : (Try.prog.info? 37).map (fun i => (i.zero, i.size, i.bytes)) = some (some (.int .u32 0), 1, 4) := by kernel_rfl
theorem rd_one {w : World} (v : Value) (t : TypeId) : ∀ j u, ([v] : List Value)[j]? = some u → (w.alloc (.cells #[v] t)).cell? ((⟨w.heap.size, 0, none⟩ : Addr).add j) = some u := fun j u hj => by
  have hl := (List.getElem?_eq_some_iff.1 hj).1
  simp at hl
  subst hl
  simp at hj
  subst hj
  rw [Addr.add_lit, row_cell (World.alloc_heap_new _ _)]
  rfl
def u32s (l : List Int) : List Value := l.map (Value.int .u32)
/-- the lower digits so far. -/
def LowP (g1 G : Nat) (ds : List Int) (wr : World) (lv : Value) (k : Nat) : Prop := (k = 0 ∧ lv = .slice (some ⟨g1, 0, none⟩) 0 0) ∨ (0 < k ∧ wr.ownsRow G 37 1 lv k (u32s (ds.take k)))
/-- the upper digits so far. -/
def HighP (g2 G : Nat) (ds : List Int) (wr : World) (lv hv : Value) (i : Nat) : Prop := (i ≤ 2 ∧ hv = .slice (some ⟨g2, 0, none⟩) 0 0) ∨ (2 < i ∧ ∃ H, G ≤ H ∧ (∀ g, lv.ownBlock = some g → g < H) ∧ H ≤ wr.heap.size ∧ wr.ownsRow H 37 1 hv (i - 2) (u32s ((ds.take i).drop 2)))
theorem val_parts {ds : List Int} (hd : Dig ds) : val (ds.take 2) = val ds % 18446744073709551616 ∧ val (ds.drop 2) = val ds / 18446744073709551616 := by
  have h0 := val_nonneg _ (hd.take 2)
  have h1 := val_lt _ (hd.take 2)
  by_cases h : 2 ≤ ds.length
  · have e := val_append (ds.take 2) (ds.drop 2)
    rw [List.take_append_drop] at e
    have hl : (ds.take 2).length = 2 := by rw [List.length_take]; omega
    rw [hl, show pw 2 = 18446744073709551616 from rfl] at e h1
    omega
  · have e1 : ds.drop 2 = [] := List.drop_eq_nil_of_le (by omega)
    have e2 : ds.take 2 = ds := List.take_of_length_le (by omega)
    have h3 : val ds < 18446744073709551616 := by
      have h5 := pw_le ds.length 2 (by omega)
      have h6 := val_lt ds hd
      rw [show pw 2 = 18446744073709551616 from rfl] at h5
      omega
    rw [e2] at h0
    rw [e1, e2, show val [] = 0 from rfl]
    omega
theorem not_u64 (x : Int) (h0 : 0 ≤ x) (h1 : x < 18446744073709551616) : bits .xor .u64 IntKind.u64.max x = 18446744073709551615 - x := by
  obtain ⟨a, rfl⟩ := Int.eq_ofNat_of_zero_le h0
  show IntKind.u64.wrap ((BitVec.ofInt 64 IntKind.u64.max ^^^ BitVec.ofInt 64 (a : Int)).toNat : Int) = _
  have h2 : BitVec.ofInt 64 IntKind.u64.max = BitVec.allOnes 64 := by decide
  rw [h2, BitVec.allOnes_xor, BitVec.toNat_not, ofInt_u64 a (by omega), IntKind.wrap_u64]
  omega
theorem info23 : (Try.prog.info? 36).map (·.size) = some 2 := by kernel_rfl
theorem tw_info (b v : Value) : (Try.prog.info? 36).map (·.size) = some (#[b, v] : Array Value).size := info23
theorem tw_size (b v b' v' : Value) : (#[b, v] : Array Value).size = (#[b', v'] : Array Value).size := rfl
theorem tw_all (a b : Int) : (#[.int .u64 a, .int .u64 b] : Array Value).all (·.oneCell') = true := by simp [Value.oneCell']
theorem res_c {P : Program} {fn : Func} {p : Tmp} {ty : TypeId} (h : fn.results = #[.cell p ty]) (tmps : Array Value) (w : World) (g : Nat) (t : TypeId) (cs : Array Value) (fr : Nat × Nat) (d : TypeDesc)
    (hp : tmps.getD p undef = .pointer (some ⟨g, 0, none⟩)) (hg : w.heap[g]? = some (.cells cs t fr))
    (hu : P.underlying ty = some d) (hd : (match d with | .struct _ | .array _ _ => true | _ => false) = true) (hi : (P.info? ty).map (·.size) = some cs.size) :
    (results fn tmps).run P w = .ok (.agg cs) w := by
  have hp' : tmps[p]?.getD undef = .pointer (some ⟨g, 0, none⟩) := by simpa using hp
  simp [results, h, hp', asAddr, run_loadVar_row w g t ty cs fr d hg hu hd hi]
theorem refwords_any (v : Value) (m : Int) (w : World) (hv : Am w v m) (hm : Amt m) :
    Calls Try.prog 9 #[v] w fun e w' => e = .returned (.agg #[.int .u64 (hiW m), .int .u64 (loW m)]) ∧ Below w.heap.size w w' := by
  obtain ⟨u, rfl, hu⟩ := hv
  obtain ⟨b, hb⟩ : ∃ b, decide (m < 0) = b := ⟨_, rfl⟩
  obtain ⟨ds, x1, x2, x3, hval⟩ := hu
  obtain ⟨a, c, rfl, hn, hc⟩ := x1.shape
  have HAB := hid (show absI m ≤ 170141183460469231731687303715884105727 ∧ 0 ≤ absI m from by obtain ⟨a, b⟩ := hm; unfold absI; split <;> omega)
  have h4 : ds.length ≤ 4 := len_le ds x2 x3 4 (by rw [hval, show pw 4 = 340282366920938463463374607431768211456 from by decide]; have := HAB.out; omega)
  obtain ⟨n, hnn⟩ : ∃ n, ds.length = n := ⟨_, rfl⟩
  obtain ⟨Wa, hWa⟩ : ∃ W, w.alloc (.cells #[.bool b, .slice a n c] 31) = W := ⟨_, rfl⟩
  obtain ⟨Wb, hWb⟩ : ∃ W, Wa.alloc (.cells #[.int .u64 0, .int .u64 0] 36) = W := ⟨_, rfl⟩
  obtain ⟨Wc, hWc⟩ : ∃ W, Wb.alloc (.cells #[] 37) = W := ⟨_, rfl⟩
  obtain ⟨Wd, hWd⟩ : ∃ W, Wc.alloc (.cells #[] 37) = W := ⟨_, rfl⟩
  have ba : Below w.heap.size w Wa := by rw [← hWa]; exact ball _ _
  have bb : Below Wa.heap.size Wa Wb := by rw [← hWb]; exact ball _ _
  have bc : Below Wb.heap.size Wb Wc := by rw [← hWc]; exact ball _ _
  have bd : Below Wc.heap.size Wc Wd := by rw [← hWd]; exact ball _ _
  have BD := hid (btr (btr (btr ba bb) bc) bd)
  have RA := hid (show Wd.heap[w.heap.size]? = some (.cells #[.bool b, .slice a n c] 31 (0, 0)) from row_on (row_on (row_on (by rw [← hWa]; exact World.alloc_heap_new _ _) bb) bc) bd)
  have RB := hid (show Wd.heap[Wa.heap.size]? = some (.cells #[.int .u64 0, .int .u64 0] 36 (0, 0)) from row_on (row_on (by rw [← hWb]; exact World.alloc_heap_new _ _) bc) bd)
  have HDG := hid (show ∀ i, i < n → ∃ g o, a = some ⟨g, o, none⟩ ∧ Wd.cell? ⟨g, o + i, none⟩ = some (.int .u32 (at0 ds i)) ∧ g < Wd.heap.size from fun i hi => by
    obtain ⟨g, o, e, k⟩ := hc (by omega)
    refine ⟨g, o, e, ?_, Nat.lt_of_lt_of_le k.lt BD.out.size⟩
    rw [BD.out.cell (p := ⟨g, o + i, none⟩) k.lt]
    exact k.2 i (by omega))
  have HTK := hid (show ∀ i, i < n → ds.take (i + 1) = ds.take i ++ [at0 ds i] from fun i hi => by
    rw [List.take_succ_eq_append_getElem (by omega)]
    unfold at0
    rw [List.getElem?_eq_getElem (by omega)]
    rfl)
  have HLN := hid hnn
  have HVP := hid (val_parts x2)
  have HDS := hid x2
  rw [hval] at HVP
  have HBM := hid hb
  have HMM := hid hm
  rw [hb, hnn]
  rw [hnn] at h4
  obtain ⟨gb, hgb⟩ : ∃ g, w.heap.size = g := ⟨_, rfl⟩
  obtain ⟨gr, hgr⟩ : ∃ g, Wa.heap.size = g := ⟨_, rfl⟩
  have HGS := hid (show w.heap.size = gb ∧ gb < Wd.heap.size ∧ gr < Wd.heap.size ∧ gb ≤ gr from ⟨hgb, by have := row_lt RA.out; omega, by have := row_lt RB.out; omega, by have := ba.size; omega⟩)
  rw [hgb] at RA
  rw [hgr] at RB
  obtain ⟨g1, hg1⟩ : ∃ g, Wb.heap.size = g := ⟨_, rfl⟩
  obtain ⟨g2, hg2⟩ : ∃ g, Wc.heap.size = g := ⟨_, rfl⟩
  obtain ⟨G, hG⟩ : ∃ g, Wd.heap.size = g := ⟨_, rfl⟩
  have HGG := hid hG
  have L0 := hid (show LowP g1 G ds Wd (.slice (some ⟨g1, 0, none⟩) 0 0) (min 0 2) from .inl ⟨rfl, rfl⟩)
  have P0 := hid (show HighP g2 G ds Wd (.slice (some ⟨g1, 0, none⟩) 0 0) (.slice (some ⟨g2, 0, none⟩) 0 0) 0 from .inl ⟨by decide, rfl⟩)
  have B0 := hid (Below.refl G Wd)
  have HI := hid (info_parts9 infoD)
  clear hm hb x1 x2 x3 hval hc hn hnn ba bb bc bd
  go_enter Try.func9, Try.ntmps9
  go_upto_region 4 with fail
  go_loopw [3, 4, 5] (fun lv hv iv wr => ∃ i, i ≤ n ∧ iv = .int .i64 (i : Nat) ∧ Hid (LowP g1 G ds wr lv (min i 2)) ∧ Hid (HighP g2 G ds wr lv hv i) ∧ Hid (Below G Wd wr)) (fun _ _ iv _ => n - (intOf iv).toNat)
  case atStart => exact ⟨0, Nat.zero_le _, rfl, L0, P0, B0⟩
  case round =>
    obtain ⟨i, hin, rfl, LW, HW, BW⟩ := hrel
    clear L0 P0 B0
    have BW9 := hid (show Below Wd.heap.size Wd wr from by rw [HGG.out]; exact BW.out)
    have RR := hid (row_on RA.out BW9.out)
    have k0 : wr.cell? ⟨gb, 0, none⟩ = some (.bool b) := row_cell RR.out 0
    have k1 : wr.cell? ⟨gb, 1, none⟩ = some (.slice a n c) := row_cell RR.out 1
    by_cases hlt : i < n
    · obtain ⟨g, o, rfl, kd, kl⟩ := HDG.out i hlt
      have kd : wr.cell? ⟨g, o + i, none⟩ = some (.int .u32 (at0 ds i)) := (BW9.out.cell (p := ⟨g, o + i, none⟩) kl).trans kd
      have htk := HTK.out i hlt
      obtain ⟨d, hd⟩ : ∃ d, at0 ds i = d := ⟨_, rfl⟩
      rw [hd] at kd htk
      obtain ⟨A, hA⟩ : ∃ A, wr.alloc (.cells #[.int .u32 d] 37) = A := ⟨_, rfl⟩
      have bA : Below wr.heap.size wr A := by rw [← hA]; exact ball _ _
      have RD := hid (show ∀ j u, ([.int .u32 d] : List Value)[j]? = some u → A.cell? ((⟨wr.heap.size, 0, none⟩ : Addr).add j) = some u from by rw [← hA]; exact rd_one (.int .u32 d) 37)
      have BA := hid (show Below G Wd A from BW.out.trans (bA.mono (by have := BW.out.size; have := HGG.out; omega)))
      have HAS := hid (show G ≤ A.heap.size from by have := BA.out.size; have := HGG.out; omega)
      have i0 : (0 : Int) ≤ (i : Int) := by omega
      have i1 : (i : Int) < (n : Int) := by omega
      have wi : IntKind.i64.wrap ((i : Int) + 1) = ((i + 1 : Nat) : Int) := by rw [IntKind.wrap_i64]; omega
      have HLT := hid hlt
      have HTK9 := hid htk
      have HI9 := hid (show i < 4 from by omega)
      clear hd htk
      by_cases h2 : i < 2
      · have c2 : decide ((i : Int) < 2) = true := by rw [decide_eq_true_iff]; omega
        have HM2 := hid (show min i 2 = i ∧ min (i + 1) 2 = i + 1 from by omega)
        have HHI := hid (show u4 = .slice (some ⟨g2, 0, none⟩) 0 0 from by
          rcases HW.out with ⟨_, e⟩ | ⟨h, _⟩
          · exact e
          · omega)
        have H2 := hid h2
        rcases LW.out with ⟨hk, rfl⟩ | ⟨hk, ho⟩
        · have HI0 := hid (show i = 0 from by omega)
          clear LW HW bA hk h2
          go_wp2_with (at_builtin; obtain ⟨i9, hi9, hz9, hs9, hb9⟩ := HI.out; refine wpList_append_grows _ (by rfl) (.tmp 21) (.tmp 27) 29 (by rfl) 37 i9 _ 1 4 Try.underlying29 hi9 hz9 hs9 hb9 rfl (by decide) (some ⟨g1, 0, none⟩) 0 0 [] (by rfl) (fun e => by cases e) rfl (fun _ _ j u hj => by simp at hj) ⟨wr.heap.size, 0, none⟩ 1 1 [.int .u32 d] (by rfl) rfl RD.out (fun u hu => by simp at hu; subst hu; rfl) (by decide) (by unfold maxLen; decide) (by decide) ?_; intro v' w' hown hgrow; have O1 := hid hown; have G1 := hid hgrow; clear hown hgrow)
          have B2 := hid (show Below G Wd w' from BA.out.grown G1.out HAS.out (fun j hj => by cases hj))
          have LN := hid (show LowP g1 G ds w' v' (min (i + 1) 2) from .inr ⟨by rw [HM2.out.2]; omega, by
            rw [HM2.out.2, HTK9.out, HI0.out]
            exact own_mono O1.out HAS.out⟩)
          have HN := hid (show HighP g2 G ds w' v' u4 (i + 1) from .inl ⟨by have := H2.out; omega, HHI.out⟩)
          go_roundw
          case rel => exact ⟨i + 1, HLT.out, by go_num, LN, HN, B2⟩
          case measure => have := HLT.out; simp [intOf]; omega
        · rw [HM2.out.1] at ho
          have OW := hid (own_on ho bA)
          obtain ⟨p9, d9, rfl⟩ := own_form ho
          have HLE := hid HAS.out
          clear LW HW bA ho hk h2
          go_wp2_with (at_builtin; refine wpList_app_rd (by rfl) (.tmp 21) (.tmp 27) 29 37 _ 1 4 (by rfl) Try.underlying29 infoD rfl (by decide) G _ (i) (u32s (ds.take i)) (by rfl) OW.out (some ⟨wr.heap.size, 0, none⟩) 1 1 [.int .u32 d] (by rfl) (fun e => by cases e) rfl (fun ad e => by injection e with e; subst e; exact RD.out) (fun u hu => by simp at hu; subst hu; rfl) (by unfold maxLen; omega) (by omega) HLE.out ?_; intro v' w' hown hgrow; have O1 := hid hown; have G1 := hid hgrow; clear hown hgrow)
          have B2 := hid (show Below G Wd w' from BA.out.grown G1.out HAS.out (own_ge OW.out))
          have LN := hid (show LowP g1 G ds w' v' (min (i + 1) 2) from .inr ⟨by rw [HM2.out.2]; omega, by
            rw [HM2.out.2, HTK9.out]
            have := O1.out
            unfold u32s at this ⊢
            rw [List.map_append]
            exact this⟩)
          have HN := hid (show HighP g2 G ds w' v' u4 (i + 1) from .inl ⟨by have := H2.out; omega, HHI.out⟩)
          go_roundw
          case rel => exact ⟨i + 1, HLT.out, by go_num, LN, HN, B2⟩
          case measure => have := HLT.out; simp [intOf]; omega
      · have c2 : decide ((i : Int) < 2) = false := by rw [decide_eq_false_iff_not]; omega
        have HM2 := hid (show min i 2 = 2 ∧ min (i + 1) 2 = 2 from by omega)
        have H2 := hid h2
        have LR := hid (show wr.ownsRow G 37 1 u3 2 (u32s (ds.take 2)) from by
          rcases LW.out with ⟨hk, _⟩ | ⟨_, ho⟩
          · rw [HM2.out.1] at hk; omega
          · rw [HM2.out.1] at ho; exact ho)
        have LA := hid (own_on LR.out bA)
        obtain ⟨pl, dl, rfl⟩ := own_form LR.out
        have HDR := hid (show (ds.take (i + 1)).drop 2 = (ds.take i).drop 2 ++ [d] from by
          rw [HTK9.out, List.drop_append_of_le_length (by rw [List.length_take, HLN.out]; omega)])
        rcases HW.out with ⟨hk, rfl⟩ | ⟨hk, Hb, hh1, hh2, hh3, ho⟩
        · have HI0 := hid (show i = 2 from by omega)
          have HLB := hid (show ∀ g, (Value.slice pl 2 dl).ownBlock = some g → g < A.heap.size from fun g e => by
            obtain ⟨cur, e2⟩ := own_ty LA.out e
            exact row_lt e2)
          clear LW HW bA hk h2
          go_wp2_with (at_builtin; obtain ⟨i9, hi9, hz9, hs9, hb9⟩ := HI.out; refine wpList_append_grows _ (by rfl) (.tmp 29) (.tmp 35) 29 (by rfl) 37 i9 _ 1 4 Try.underlying29 hi9 hz9 hs9 hb9 rfl (by decide) (some ⟨g2, 0, none⟩) 0 0 [] (by rfl) (fun e => by cases e) rfl (fun _ _ j u hj => by simp at hj) ⟨wr.heap.size, 0, none⟩ 1 1 [.int .u32 d] (by rfl) rfl RD.out (fun u hu => by simp at hu; subst hu; rfl) (by decide) (by unfold maxLen; decide) (by decide) ?_; intro v' w' hown hgrow; have O1 := hid hown; have G1 := hid hgrow; clear hown hgrow)
          have B2 := hid (show Below G Wd w' from BA.out.grown G1.out HAS.out (fun j hj => by cases hj))
          have LN := hid (show LowP g1 G ds w' (.slice pl 2 dl) (min (i + 1) 2) from .inr ⟨by rw [HM2.out.2]; decide, by
            rw [HM2.out.2]
            exact own_same LA.out (fun g e => G1.out.block g (HLB.out g e) (fun e9 => by cases e9))⟩)
          have HN := hid (show HighP g2 G ds w' (.slice pl 2 dl) v' (i + 1) from .inr ⟨by have := HI0.out; omega, A.heap.size, HAS.out, HLB.out, G1.out.size, by
            rw [HDR.out, HI0.out]
            have e0 : (ds.take 2).drop 2 = [] := List.drop_eq_nil_of_le (by rw [List.length_take]; omega)
            rw [e0]
            exact O1.out⟩)
          go_roundw
          case rel => exact ⟨i + 1, HLT.out, by go_num, LN, HN, B2⟩
          case measure => have := HLT.out; simp [intOf]; omega
        · have HK3 := hid hk
          obtain ⟨q, hq⟩ : ∃ q, i - 2 = q := ⟨_, rfl⟩
          have HQ := hid hq
          rw [hq] at ho
          have OW := hid (own_on ho bA)
          obtain ⟨p9, d9, rfl⟩ := own_form ho
          have HHB := hid (And.intro hh1 hh2)
          have HLE := hid (show Hb ≤ A.heap.size from Nat.le_trans hh3 bA.size)
          have HLB := hid (show ∀ g, (Value.slice pl 2 dl).ownBlock = some g → g < A.heap.size from fun g e => by
            obtain ⟨cur, e2⟩ := own_ty LA.out e
            exact row_lt e2)
          have hq4 : q ≤ 4 := by omega
          clear LW HW bA hk h2 ho hh1 hh2 hh3 hq
          go_wp2_with (at_builtin; refine wpList_app_rd (by rfl) (.tmp 29) (.tmp 35) 29 37 _ 1 4 (by rfl) Try.underlying29 infoD rfl (by decide) Hb _ (q) (u32s ((ds.take i).drop 2)) (by rfl) OW.out (some ⟨wr.heap.size, 0, none⟩) 1 1 [.int .u32 d] (by rfl) (fun e => by cases e) rfl (fun ad e => by injection e with e; subst e; exact RD.out) (fun u hu => by simp at hu; subst hu; rfl) (by unfold maxLen; omega) (by omega) HLE.out ?_; intro v' w' hown hgrow; have O1 := hid hown; have G1 := hid hgrow; clear hown hgrow)
          have B2 := hid (show Below G Wd w' from BA.out.grown G1.out HAS.out (fun j hj => Nat.le_trans HHB.out.1 (own_ge OW.out j hj)))
          have LN := hid (show LowP g1 G ds w' (.slice pl 2 dl) (min (i + 1) 2) from .inr ⟨by rw [HM2.out.2]; decide, by
            rw [HM2.out.2]
            exact own_same LA.out (fun g e => G1.out.block g (HLB.out g e) (fun e9 => by
              have h1 := own_ge OW.out g e9.symm
              have h2 := HHB.out.2 g e
              omega))⟩)
          have HN := hid (show HighP g2 G ds w' (.slice pl 2 dl) v' (i + 1) from .inr ⟨by have := HK3.out; omega, Hb, HHB.out.1, HHB.out.2, Nat.le_trans HLE.out G1.out.size, by
            rw [HDR.out, show i + 1 - 2 = q + 1 from by have := HQ.out; have := HK3.out; omega]
            have := O1.out
            unfold u32s at this ⊢
            rw [List.map_append]
            exact this⟩)
          go_roundw
          case rel => exact ⟨i + 1, HLT.out, by go_num, LN, HN, B2⟩
          case measure => have := HLT.out; simp [intOf]; omega
    · obtain rfl : n = i := by omega
      have hl2 : ds.take (min n 2) = ds.take 2 := by
        by_cases h : n ≤ 2
        · rw [show min n 2 = n from by omega, List.take_of_length_le (by rw [HLN.out]; exact Nat.le_refl _), List.take_of_length_le (by rw [HLN.out]; exact h)]
        · rw [show min n 2 = 2 from by omega]
      obtain ⟨a1, c1, rfl, s1⟩ : ∃ a1 c1, u3 = .slice a1 (ds.take 2).length c1 ∧ (0 < (ds.take 2).length → ∃ g o, a1 = some ⟨g, o, none⟩ ∧ CellsAt wr g o (ds.take 2)) := by
        rcases LW.out with ⟨hk, rfl⟩ | ⟨hk, ho⟩
        · have e : ds.take 2 = [] := by rw [← hl2, hk]; rfl
          rw [e]
          exact ⟨_, _, rfl, fun h => by simp at h⟩
        · rw [hl2] at ho
          obtain ⟨a1, c1, e, _, s⟩ := (rd_of_owns ho (by rw [List.length_take, HLN.out]; omega)).shape
          exact ⟨a1, c1, e, s⟩
      have hh2 : (ds.take n).drop 2 = ds.drop 2 := by rw [List.take_of_length_le (by rw [HLN.out]; exact Nat.le_refl _)]
      obtain ⟨a2, c2, rfl, s2⟩ : ∃ a1 c1, u4 = .slice a1 (ds.drop 2).length c1 ∧ (0 < (ds.drop 2).length → ∃ g o, a1 = some ⟨g, o, none⟩ ∧ CellsAt wr g o (ds.drop 2)) := by
        rcases HW.out with ⟨hk, rfl⟩ | ⟨hk, Hb, _, _, _, ho⟩
        · have e : ds.drop 2 = [] := List.drop_eq_nil_of_le (by rw [HLN.out]; exact hk)
          rw [e]
          exact ⟨_, _, rfl, fun h => by simp at h⟩
        · rw [hh2] at ho
          obtain ⟨a1, c1, e, _, s⟩ := (rd_of_owns ho (by rw [List.length_drop, HLN.out])).shape
          exact ⟨a1, c1, e, s⟩
      have C1 := hid (word_short wr (ds.take 2) a1 c1 (by rw [List.length_take]; omega) (HDS.out.take 2) s1)
      have C2 := hid (word_short wr (ds.drop 2) a2 c2 (by rw [List.length_drop, HLN.out]; omega) (fun d hd => HDS.out d (List.mem_of_mem_drop hd)) s2)
      rw [HVP.out.1] at C1
      rw [HVP.out.2] at C2
      have HR := hid (row_on RB.out BW9.out)
      have BX := hid (btr BD.out BW9.out)
      obtain ⟨l1, hl1⟩ : ∃ k, (ds.take 2).length = k := ⟨_, rfl⟩
      obtain ⟨l2, hl2'⟩ : ∃ k, (ds.drop 2).length = k := ⟨_, rfl⟩
      rw [hl1] at C1 ⊢
      rw [hl2'] at C2 ⊢
      obtain ⟨L, hL⟩ : ∃ L, absI m % 18446744073709551616 = L := ⟨_, rfl⟩
      obtain ⟨M, hM⟩ : ∃ L, absI m / 18446744073709551616 = L := ⟨_, rfl⟩
      rw [hL] at C1
      rw [hM] at C2
      have HLM := hid (And.intro hL hM)
      clear LW HW s1 s2 hl1 hl2' hl2 hh2 hL hM BW RR
      cases b with
      | false =>
        have h0 : ¬ m < 0 := of_decide_eq_false HBM.out
        have HF := hid (show M = hiW m ∧ L = loW m from by
          obtain ⟨q1, q2⟩ := HLM.out
          have := HAB.out
          unfold absI at *
          unfold hiW loW
          rw [if_neg h0] at *
          omega)
        clear h0
        go_wp2_with (first | (go_at_call 33; with_reducible refine C1.out.mono ?_; rintro e w9 ⟨rfl, h1⟩; have h1 := h1.symm; subst h1) | (go_at_call 33; with_reducible refine C2.out.mono ?_; rintro e w9 ⟨rfl, h1⟩; have h1 := h1.symm; subst h1) | (refine wpList_store_row (by rfl) 36 (.tmp 2) (.tmp 52) (by rfl) gr #[.int .u64 M, .int .u64 L] (by rfl) (by rfl) 36 _ HR.out (tw_info _ _) (tw_size _ _ _ _) (tw_all _ _) ?_))
        refine bodyPost_ret (res_c Try.results9 _ _ gr 36 #[.int .u64 M, .int .u64 L] (0, 0) _ (by rfl) (setRow_heap _ _ _ _ 36 (0, 0) HR.out) Try.underlying36 rfl info23) rfl ⟨?_, setRow_below BX.out (by have := HGS.out; omega)⟩
        rw [HF.out.1, HF.out.2]
      | true =>
        have h0 : m < 0 := of_decide_eq_true HBM.out
        have HQ := hid (show 0 ≤ M ∧ M < 18446744073709551616 ∧ 0 ≤ L ∧ L < 18446744073709551616 from by
          obtain ⟨q1, q2⟩ := HLM.out
          have := HAB.out
          omega)
        have HE := hid (show absI m = -m from by unfold absI; rw [if_pos h0])
        by_cases hL0 : L = 0
        · subst hL0
          have e1 : IntKind.u64.wrap (-M) = hiW m := by
            rw [IntKind.wrap_u64]
            obtain ⟨q1, q2⟩ := HLM.out
            have := HE.out
            unfold hiW
            omega
          have HF := hid (show loW m = 0 from by
            obtain ⟨q1, q2⟩ := HLM.out
            have := HE.out
            unfold loW
            omega)
          clear h0
          go_wp2_with (first | (go_at_call 33; with_reducible refine C1.out.mono ?_; rintro e w9 ⟨rfl, h1⟩; have h1 := h1.symm; subst h1) | (go_at_call 33; with_reducible refine C2.out.mono ?_; rintro e w9 ⟨rfl, h1⟩; have h1 := h1.symm; subst h1) | (refine wpList_store_row (by rfl) 36 (.tmp 2) (.tmp 57) (by rfl) gr #[.int .u64 (hiW m), .int .u64 0] (by rfl) (by rfl) 36 _ HR.out (tw_info _ _) (tw_size _ _ _ _) (tw_all _ _) ?_))
          refine bodyPost_ret (res_c Try.results9 _ _ gr 36 #[.int .u64 (hiW m), .int .u64 0] (0, 0) _ (by rfl) (setRow_heap _ _ _ _ 36 (0, 0) HR.out) Try.underlying36 rfl info23) rfl ⟨?_, setRow_below BX.out (by have := HGS.out; omega)⟩
          rw [HF.out]
        · have e0 : (L == 0) = false := by simp [hL0]
          have e1 : IntKind.u64.wrap (-L) = loW m := by
            rw [IntKind.wrap_u64]
            obtain ⟨q1, q2⟩ := HLM.out
            have := HE.out
            unfold loW
            omega
          clear h0
          have E2 := hid (show bits .xor .u64 IntKind.u64.max M = hiW m from by
            rw [not_u64 M HQ.out.1 HQ.out.2.1]
            obtain ⟨q1, q2⟩ := HLM.out
            have := HE.out
            have := HQ.out
            unfold hiW
            omega)
          go_wp2_with (first | (go_at_call 33; with_reducible refine C1.out.mono ?_; rintro e w9 ⟨rfl, h1⟩; have h1 := h1.symm; subst h1) | (go_at_call 33; with_reducible refine C2.out.mono ?_; rintro e w9 ⟨rfl, h1⟩; have h1 := h1.symm; subst h1) | (refine wpList_store_row (by rfl) 36 (.tmp 2) (.tmp 62) (by rfl) gr #[.int .u64 (bits .xor .u64 IntKind.u64.max M), .int .u64 (loW m)] (by rfl) (by rfl) 36 _ HR.out (tw_info _ _) (tw_size _ _ _ _) (tw_all _ _) ?_))
          refine bodyPost_ret (res_c Try.results9 _ _ gr 36 #[.int .u64 (bits .xor .u64 IntKind.u64.max M), .int .u64 (loW m)] (0, 0) _ (by rfl) (setRow_heap _ _ _ _ 36 (0, 0) HR.out) Try.underlying36 rfl info23) rfl ⟨?_, by
            have h9 := setRow_below (cs := #[.int .u64 (bits .xor .u64 IntKind.u64.max M), .int .u64 (loW m)]) BX.out (show w.heap.size ≤ gr from by have := HGS.out; omega)
            rw [HGS.out.1] at h9
            exact h9⟩
          rw [E2.out]
end Go.Proofs.Ythikjpccmplbiaa.Dm
