/-
  WireAlone, whatever comes in.
-/
import Derived.Test.YtioohpdjmamhgaaDoorWaU
import Derived.Test.YtioohpdjmamhgaaDoorLives
import Derived.Deep.RegionHeld3
import Derived.Deep.Cut
namespace Go.Proofs.YtioohpdjmamhgaaDoor
open Go.RowKit Go.Deep Crc
set_option linter.unusedVariables false
set_option linter.unusedSimpArgs false
set_option maxRecDepth 1000000
set_option maxHeartbeats 4000000
/-- bytes that came in. -/
structure Sq (w : World) (q : Option Addr) (cap : Nat) (xs : List Nat) : Prop where
  le : xs.length ≤ cap
  nil : q = none → cap = 0
  bs : xs = [] ∨ ∃ b o, q = some ⟨b, o, none⟩ ∧ Bs w b o xs
theorem Sq.cut {w : World} {q : Option Addr} {cap : Nat} {xs : List Nat} (h : Sq w q cap xs) {k : Nat} (hk : k ≤ xs.length) : Sx w (.slice q k cap) (xs.take k) := by
  rcases h.bs with rfl | ⟨b, o, rfl, hb⟩
  · have : k = 0 := by simpa using hk
    subst this
    cases q with
    | none => exact .inl ⟨rfl, by rw [h.nil rfl]⟩
    | some ad => exact .inr (.inl ⟨rfl, ad, cap, rfl⟩)
  · refine .inr (.inr ⟨b, o, cap, by rw [List.length_take, Nat.min_eq_left hk], bs_take hb k⟩)
theorem Sq.sx {w : World} {q : Option Addr} {cap : Nat} {xs : List Nat} (h : Sq w q cap xs) : Sx w (.slice q xs.length cap) xs := by
  have := h.cut (Nat.le_refl _)
  rwa [List.take_length] at this
theorem Sq.on {w w' : World} {q : Option Addr} {cap : Nat} {xs : List Nat} (h : Sq w q cap xs) (b : Below w.heap.size w w') : Sq w' q cap xs := by
  refine ⟨h.le, h.nil, ?_⟩
  rcases h.bs with rfl | ⟨g, o, rfl, hb⟩
  · exact .inl rfl
  · exact .inr ⟨g, o, rfl, bs_to hb b⟩
theorem own_sx {base : Nat} {w : World} {p : Option Addr} {n c : Nat} {xs : List Nat} (h : w.ownsRow base 5 1 (.slice p n c) xs.length (bv xs)) : Sx w (.slice p n c) xs := by
  have hh := h
  obtain ⟨h1, ⟨e, e2⟩ | ⟨g, c', cur, e, r1, r2, r3⟩⟩ := h
  · cases e
    exact .inl ⟨List.eq_nil_of_length_eq_zero e2, rfl⟩
  · cases e
    refine .inr (.inr ⟨g, 0, c, rfl, fun i hi => ?_⟩)
    have := World.ownsRow.cellAt hh i (by simpa using hi)
    rw [bv_get xs i hi] at this
    simpa using this
theorem own_form {base : Nat} {w : World} {e : TypeId} {size n : Nat} {v : Value} {xs : List Value} (h : w.ownsRow base e size v n xs) : ∃ p c, v = .slice p n c := by
  obtain ⟨_, ⟨e, rfl⟩ | ⟨g', c', cur, e, _⟩⟩ := h
  · exact ⟨_, _, e⟩
  · exact ⟨_, _, e⟩
theorem own_empty {base : Nat} {w : World} {g : Nat} (hb : base ≤ g) (h : w.heap[g]? = some (.cells #[] 5 (0, 0))) : w.ownsRow base 5 1 (.slice (some ⟨g, 0, none⟩) 0 0) ([] : List Nat).length (bv []) :=
  ⟨rfl, .inr ⟨g, 0, #[], rfl, hb, h, Nat.le_refl _, Nat.zero_le _, rfl, rfl⟩⟩
theorem below_drews {a b : World} (h : b.heap = a.heap) (h1 : b.os = a.os) (h2 : b.tape = a.tape) (h3 : b.output = a.output) : Below a.heap.size a b := ⟨h1, h2, h3, by rw [h]; exact Nat.le_refl _, fun _ _ => by rw [h]⟩
theorem Tl.split : ∀ {a b : List (List Nat)} {v : List (Value × Int)}, Tl (a ++ b) v → ∃ x y, v = x ++ y ∧ Tl a x ∧ Tl b y
  | [], b, v, h => ⟨[], v, rfl, trivial, h⟩
  | c :: a, b, u :: v, h => by
    obtain ⟨x, y, e, h1, h2⟩ := Tl.split (a := a) h.2
    exact ⟨u :: x, y, by rw [e]; rfl, ⟨h.1, h1⟩, h2⟩
/-- what is told of three parts. -/
theorem tl_three {a b c : List Nat} {n : Nat} {va vf vb : List (Value × Int)} (hn : a.length = 64 * n) (hb : b.length = 64) (ha : Tl (chs (a ++ b ++ c)) va) (hf : Tl (chs a) vf) (hv : Tl (chs b) vb) :
    vf.length = n ∧ ∃ e z, vb = [e] ∧ va = vf ++ e :: z ∧ Tl (chs c) z := by
  rw [List.append_assoc, chs_append n _ _ hn, chs_append 1 b c (by omega)] at ha
  obtain ⟨x, y, rfl, h1, h2⟩ := ha.split
  obtain ⟨x2, z, rfl, h3, h4⟩ := h2.split
  have e1 := h1.one hf
  have e2 := h3.one hv
  subst e1 e2
  have l1 := h1.len
  rw [chs_len n _ hn] at l1
  rw [chs_one hb] at h3
  match x2, h3 with
  | [e], _ => exact ⟨l1.symm, e, z, rfl, by simp, h4⟩
/-- an element, cell by cell. -/
theorem PwR.at {W : World} {q : Option Addr} {N cap : Nat} {l : List (Value × Int)} (h : PwR W (.slice q N cap) l) {i : Nat} (hi : i < l.length) {k a0 a1 a2 a3 a4 a5 a6 : Nat} {E : Int} (he : l[i] = (.agg #[.int .u8 (k : Nat), .int .u64 (a0 : Nat), .int .u64 (a1 : Nat), .int .u64 (a2 : Nat), .int .u64 (a3 : Nat), .int .u64 (a4 : Nat), .int .u64 (a5 : Nat), .int .u64 (a6 : Nat)], E)) :
    ∃ g, q = some ⟨g, 0, none⟩ ∧ W.cell? ⟨g, i * 9, none⟩ = some (.int .u8 (k : Nat)) ∧ W.cell? ⟨g, i * 9 + 1, none⟩ = some (.int .u64 (a0 : Nat)) ∧ W.cell? ⟨g, i * 9 + 2, none⟩ = some (.int .u64 (a1 : Nat)) ∧ W.cell? ⟨g, i * 9 + 3, none⟩ = some (.int .u64 (a2 : Nat)) ∧ W.cell? ⟨g, i * 9 + 4, none⟩ = some (.int .u64 (a3 : Nat)) ∧ W.cell? ⟨g, i * 9 + 5, none⟩ = some (.int .u64 (a4 : Nat)) ∧ W.cell? ⟨g, i * 9 + 6, none⟩ = some (.int .u64 (a5 : Nat)) ∧ W.cell? ⟨g, i * 9 + 7, none⟩ = some (.int .u64 (a6 : Nat)) ∧ W.cell? ⟨g, i * 9 + 8, none⟩ = some (.int .i64 E) := by
  obtain ⟨q', cap', e, hc⟩ := h.sl
  cases e
  obtain ⟨g, e1, _, h2⟩ := hc i hi
  rw [he] at h2
  exact ⟨g, e1, h2 0 _ rfl, h2 1 _ rfl, h2 2 _ rfl, h2 3 _ rfl, h2 4 _ rfl, h2 5 _ rfl, h2 6 _ rfl, h2 7 _ rfl, h2 8 _ rfl⟩
theorem told_sl (p : Option Addr) (n c : Nat) (xs : List Nat) (w : World) (hS : Sx w (.slice p n c) xs) (hx : Oct xs) (hlen : xs.length ≤ 1099511627776) (hL : Laid w) :
    Calls Tryd.prog 23 #[.slice p n c] w fun e w' => ∃ (vs : List (Value × Int)) (p' : Option Addr) (c' : Nat), e = .returned (.slice p' vs.length c') ∧ Hid (Tl (chs xs) vs) ∧ Hid (PwR w' (.slice p' vs.length c') vs) ∧ Hid (Below w.heap.size w w') := by
  refine (told_any p n c xs w hS hx hlen hL).mono ?_
  rintro e w' ⟨v', vs, rfl, t, o, b⟩
  obtain ⟨p', c', hv⟩ := own_form o
  subst hv
  exact ⟨vs, p', c', rfl, hid t, hid (o.rd t), hid b⟩
theorem alone_any (q0 q1 : Option Addr) (cap0 cap1 : Nat) (xs ys bs : List Nat) (w : World) (h0 : Sq w q0 cap0 xs) (h1 : Sq w q1 cap1 ys) (hb : bs.length = 64) (ox : Oct xs) (oy : Oct ys) (ob : Oct bs) (l0 : xs.length ≤ 1048576) (l1 : ys.length ≤ 1048576) (hL : Laid w) :
    Calls Tryd.prog 8 #[.slice q0 xs.length cap0, .slice q1 ys.length cap1, .agg (bv bs).toArray] w fun e w' => e = .returned (.bool true) ∧ Below w.heap.size w w' := by
  have HB0 := hid (show Below w.heap.size w (w.alloc (.cells (bv bs).toArray 32)) from (Below.refl _ w).alloc (Nat.le_refl _) _)
  have HLV := hid (lives_any (w.alloc (.cells (bv bs).toArray 32)) (laid_on hL HB0.out))
  have HRB := hid (show (w.alloc (.cells (bv bs).toArray 32)).heap[w.heap.size]? = some (.cells (bv bs).toArray 32 (0, 0)) from World.alloc_heap_new _ _)
  obtain ⟨n, hn⟩ : ∃ n, xs.length / 64 = n := ⟨_, rfl⟩
  have hqn : ((xs.length : Nat) : Int).tdiv 64 = (n : Int) := by rw [Int.tdiv_eq_ediv_of_nonneg (by omega)]; omega
  have HS0 := hid h0
  have HS1 := hid h1
  have HL := hid hL
  have h64 : n * 64 ≤ xs.length := by omega
  have wr64 : IntKind.i64.wrap ((n : Int) * 64) = ((n * 64 : Nat) : Int) := by simp [IntKind.wrap, IntKind.bits, IntKind.signed]; omega
  have s1 : (0 : Int) ≤ ((n * 64 : Nat) : Int) := by omega
  have s2 : ((n * 64 : Nat) : Int) ≤ (cap0 : Int) := by have := h0.le; omega
  have ct : (((n * 64 : Nat) : Int)).toNat = n * 64 := by omega
  obtain ⟨m, hm⟩ : ∃ m, n * 64 = m := ⟨_, rfl⟩
  rw [hm] at wr64 s1 s2 ct h64
  have HBL := hid hb
  have HM := hid (show m = 64 * n by omega)
  clear h0 h1 hL hm
  go_enter Tryd.func8, Tryd.ntmps8
  go_wp2_with (first | (go_at_call 22; with_reducible refine (HLV.out).mono ?_; rintro e w1 ⟨rfl, hb1⟩; have HB1 := hid hb1; clear hb1; refine Hid.out ?_))
  clear HLV
  have hB1w : Below w.heap.size w w1 := HB0.out.trans (HB1.out.mono HB0.out.size)
  have HBW := hid hB1w
  have hRB : w1.heap[w.heap.size]? = some (.cells (bv bs).toArray 32 (0, 0)) := (HB1.out.block _ (Array.getElem?_eq_some_iff.1 HRB.out).1).trans HRB.out
  have HRB1 := hid hRB
  have HSB := hid (show ∀ W, Below w1.heap.size w1 W → Sx W (.slice (some ⟨w.heap.size, 0, none⟩) 64 64) bs from fun W hbW => by
    refine .inr (.inr ⟨w.heap.size, 0, 64, by rw [hb], fun i hi => ?_⟩)
    have h2 := (hbW.block _ (Array.getElem?_eq_some_iff.1 HRB1.out).1).trans HRB1.out
    rw [row_cell h2 (0 + i)]
    simpa using bv_get bs i hi)
  have HSA := hid (show ∀ W, Below w1.heap.size w1 W → Sx W (.slice q0 m cap0) (xs.take m) from fun W hbW => (HS0.out.on (HBW.out.trans (hbW.mono HBW.out.size))).cut h64)
  have HSY := hid (show ∀ W, Below w1.heap.size w1 W → Sx W (.slice q1 ys.length cap1) ys from fun W hbW => (HS1.out.on (HBW.out.trans (hbW.mono HBW.out.size))).sx)
  have ltk : (xs.take m).length = m := by rw [List.length_take]; omega
  have XA := hid (show ((w1.alloc (.cells #[] 5)).drew).heap[w1.heap.size]? = some (.cells #[] 5 (0, 0)) from World.alloc_heap_new w1 (.cells #[] 5))
  have BA := hid (show Below w1.heap.size w1 (w1.alloc (.cells #[] 5)).drew from ((Below.refl _ w1).alloc (Nat.le_refl _) _).drew)
  have m64 : m ≤ 1048576 := by omega
  clear hB1w hRB
  refine hid ?_
  go_wp2_with fail
  go_region_law
    (first
    | (refine step_appB (by rfl) (.tmp 27) (.tmp 28) (by rfl) w1.heap.size _ (xs.take m ++ bs) (by rfl) HO5.out _ ys (by rfl) (HSY.out _ HB5.out) (by rw [List.length_append, ltk]; omega) HB5.out.size _ rfl ?_; intro v6 w6 hown hap; obtain ⟨p6, c6, rfl⟩ := own_form hown; have HO6 := hid hown; have HB6 := hid (HB5.out.trans hap); clear hown hap)
    | (refine step_appB (by rfl) (.tmp 25) (.tmp 26) (by rfl) w1.heap.size _ (xs.take m) (by rfl) HO4.out _ bs (by rfl) (HSB.out _ HB4.out) (by rw [ltk]; omega) HB4.out.size _ rfl ?_; intro v5 w5 hown hap; have HO5 := hid hown; have HB5 := hid (HB4.out.trans hap); clear hown hap)
    | (refine step_appB (by rfl) (.tmp 20) (.tmp 24) (by rfl) w1.heap.size _ [] (by rfl) (own_empty (Nat.le_refl _) XA.out) _ (xs.take m) (by rfl) (HSA.out _ BA.out) (by rw [ltk]; simp; omega) BA.out.size (xs.take m) (by simp) ?_; intro v4 w4 hown hap; have HO4 := hid hown; have HB4 := hid (BA.out.trans hap); clear hown hap))
  have eN : (xs.take m ++ bs ++ ys).length = m + (64 + ys.length) := by simp only [List.length_append, ltk, hb]; omega
  have hlb : ∀ (a : List Nat), Oct a → ∀ b, Oct b → Oct (a ++ b) := fun a ha b hb x hx => by
    rcases List.mem_append.1 hx with h | h
    · exact ha x h
    · exact hb x h
  have oA : Oct (xs.take m) := fun x hx => ox x (List.mem_of_mem_take hx)
  have HLD := hid (show ∀ W, Below w1.heap.size w1 W → Laid W from fun W hbW => laid_on HL.out (HBW.out.trans (hbW.mono HBW.out.size)))
  have HT1 := hid (show ∀ u, Below w1.heap.size w1 u → _ from fun u hu => told_sl (some ⟨w.heap.size, 0, none⟩) 64 64 bs u (HSB.out u hu) ob (by omega) (HLD.out u hu))
  have HT2 := hid (show ∀ u, Below w6.heap.size w6 u → _ from fun u hu => told_sl p6 (m + (64 + ys.length)) c6 (xs.take m ++ bs ++ ys) u ((show Sx w6 (.slice p6 (m + (64 + ys.length)) c6) (xs.take m ++ bs ++ ys) from eN ▸ own_sx HO6.out).to hu) (hlb _ (hlb _ oA _ ob) _ oy) (by rw [eN]; omega) (HLD.out u (HB6.out.trans (hu.mono HB6.out.size))))
  have HT3 := hid (show ∀ u, Below w1.heap.size w1 u → _ from fun u hu => told_sl q0 m cap0 (xs.take m) u (HSA.out u hu) oA (by omega) (HLD.out u hu))
  have HT4 := hid (show ∀ u, Below w1.heap.size w1 u → _ from fun u hu => told_sl q1 ys.length cap1 ys u (HSY.out u hu) oy (by omega) (HLD.out u hu))
  clear HO5 HB5 HO4 HB4 XA BA HS0 HS1 HSY HSA HSB hlb oA
  have HB6d := hid (show Below w1.heap.size w1 w6.drew from HB6.out.drew)
  refine Hid.out ?_
  refine hid ?_
  go_wp2_with (first | (go_at_call 23; with_reducible refine (HT1.out _ (by first | exact HB6d.out | exact HB6.out)).mono ?_; rintro e w7 ⟨vb, p7, c7, rfl, HTL7, HP7, HB7⟩; refine Hid.out ?_))
  have HB67 := HB7
  have HB17 := hid (HB6.out.trans (HB67.out.mono HB6.out.size))
  refine hid ?_
  go_wp2_with (first | (go_at_call 23; with_reducible refine (HT2.out _ HB67.out).mono ?_; rintro e w8 ⟨va, p8, c8, rfl, HTL8, HP8, HB8⟩; refine Hid.out ?_))
  have HB18 := hid (HB17.out.trans (HB8.out.mono HB17.out.size))
  refine hid ?_
  go_wp2_with (first | (go_at_call 23; with_reducible refine (HT3.out _ HB18.out).mono ?_; rintro e w9 ⟨vf, p9, c9, rfl, HTL9, HP9, HB9⟩; refine Hid.out ?_))
  have HB19 := hid (HB18.out.trans (HB9.out.mono HB18.out.size))
  obtain ⟨hlf, e0, z, hvb, hva, hz⟩ := tl_three (n := n) (c := ys) (by rw [ltk]; have := HM.out; omega) HBL.out HTL8.out HTL9.out HTL7.out
  obtain ⟨k, a0, a1, a2, a3, a4, a5, a6, hf0⟩ := HTL7.out.form e0 (by rw [hvb]; simp)
  have he0 : e0 = (.agg #[.int .u8 (k : Nat), .int .u64 (a0 : Nat), .int .u64 (a1 : Nat), .int .u64 (a2 : Nat), .int .u64 (a3 : Nat), .int .u64 (a4 : Nat), .int .u64 (a5 : Nat), .int .u64 (a6 : Nat)], e0.2) := by rw [← hf0]
  obtain ⟨E, hE⟩ : ∃ E, e0.2 = E := ⟨_, rfl⟩
  rw [hE] at he0
  have HZ := hid hz
  have lb : vb.length = 1 := by rw [hvb]; rfl
  obtain ⟨nv, hnv⟩ : ∃ nv, va.length = nv := ⟨_, rfl⟩
  have hk : nv = n + 1 + z.length := by rw [← hnv, hva, List.length_append, hlf, List.length_cons]; omega
  have hz20 : z.length ≤ 1048576 := by have := hz.len; have := chs_bound ys; omega
  obtain ⟨g7, rfl, d0, d1, d2, d3, d4, d5, d6, d7, d8⟩ := ((HP7.out.on HB8.out).on HB9.out).at (i := 0) (by rw [hvb]; simp) (by simp only [hvb, List.getElem_cons_zero]; exact he0)
  obtain ⟨g8, rfl, f0, f1, f2, f3, f4, f5, f6, f7, f8⟩ := (HP8.out.on HB9.out).at (i := n) (by omega) (by
    have e2 : va[n]? = some e0 := by rw [hva, List.getElem?_append_right (by omega), hlf]; simp
    rw [List.getElem?_eq_getElem (by omega)] at e2
    rw [← he0]; exact Option.some.inj e2)
  have NE := neP k a0 a1 a2 a3 a4 a5 a6 E
  simp only [Nat.zero_mul, Nat.zero_add] at d0 d1 d2 d3 d4 d5 d6 d7 d8
  have HH := hid (And.intro hva (And.intro hvb (And.intro hlf (And.intro hnv hk))))
  rw [hlf, lb, hnv]
  have x1 : decide ((nv : Int) < (n : Int) + 1) = false := by simp; omega
  have x2 : (0 : Int) ≤ (n : Int) := by omega
  have x3 : (n : Int) < (nv : Int) := by omega
  have x4 : ((n : Int)).toNat = n := by omega
  have hnb : n ≤ 1048576 := by omega
  have x5 : IntKind.i64.wrap ((n : Int) + 1) = (n : Int) + 1 := by simp [IntKind.wrap, IntKind.bits, IntKind.signed]; omega
  clear hva hvb hlf hnv hz hf0 he0 hE lb hn ltk eN HT1 HT2 HT3 HTL7 HTL8 hk
  refine hid ?_
  go_wp2_with fail
  go_quiet (fail)
  have HB90 := hid (show Below w9.heap.size w9 (w9.drewN nq) from below_drews rfl rfl rfl rfl)
  clear NE d0 d1 d2 d3 d4 d5 d6 d7 d8 f0 f1 f2 f3 f4 f5 f6 f7 f8 x1
  have HP89 := hid (HP8.out.on HB9.out)
  refine Hid.out ?_
  refine hid ?_
  go_wp2_with fail
  go_loopw [12] (fun iv wr => ∃ i : Nat, i ≤ n ∧ iv = .int .i64 i ∧ Hid (Below w9.heap.size w9 wr)) (fun iv _ => n - (intOf iv).toNat)
  case atStart => exact ⟨0, Nat.zero_le _, rfl, HB90⟩
  case round =>
    clear HB90
    obtain ⟨i, hi, rfl, HBr⟩ := hrel
    by_cases hin : i < n
    · obtain ⟨hva, hvb, hlf, hnv, hk⟩ := HH.out
      have hif : i < vf.length := by omega
      obtain ⟨k', b0, b1, b2, b3, b4, b5, b6, hf0⟩ := HTL9.out.form vf[i] (List.getElem_mem hif)
      have he0 : vf[i] = (.agg #[.int .u8 (k' : Nat), .int .u64 (b0 : Nat), .int .u64 (b1 : Nat), .int .u64 (b2 : Nat), .int .u64 (b3 : Nat), .int .u64 (b4 : Nat), .int .u64 (b5 : Nat), .int .u64 (b6 : Nat)], vf[i].2) := by rw [← hf0]
      obtain ⟨E', hE⟩ : ∃ E, vf[i].2 = E := ⟨_, rfl⟩
      rw [hE] at he0
      obtain ⟨g9, hp9, d0, d1, d2, d3, d4, d5, d6, d7, d8⟩ := (HP9.out.on HBr.out).at hif he0
      obtain ⟨g8', hp8, f0, f1, f2, f3, f4, f5, f6, f7, f8⟩ := (HP89.out.on HBr.out).at (i := i) (by omega) (by
        have e2 : va[i]? = some vf[i] := by rw [hva, List.getElem?_append_left hif]; exact List.getElem?_eq_getElem hif
        rw [List.getElem?_eq_getElem (by omega)] at e2
        rw [← he0]; exact Option.some.inj e2)
      cases hp8
      subst hp9
      have NE := neP k' b0 b1 b2 b3 b4 b5 b6 E'
      have y1 : (i : Int) < (n : Int) := by omega
      have y2 : (0 : Int) ≤ (i : Int) := by omega
      have y3 : (i : Int) < (nv : Int) := by omega
      have ct1 : ((i : Int)).toNat = i := by omega
      have wj : IntKind.i64.wrap ((i : Int) + 1) = ((i + 1 : Nat) : Int) := by simp [IntKind.wrap, IntKind.bits, IntKind.signed]; omega
      have HJM := hid (show i + 1 ≤ n ∧ n - (i + 1) < n - i by omega)
      obtain ⟨j1, hj1⟩ : ∃ j1, i + 1 = j1 := ⟨_, rfl⟩
      rw [hj1] at wj HJM
      clear hva hvb hlf hnv hk hif hf0 he0 hE hin hi hj1
      go_wp2_with fail
      go_quiet (fail)
      go_wp2_with fail
      go_roundw
      case rel => exact ⟨j1, HJM.out.1, rfl, hid (HBr.out.trans (by refine Below.mono (below_drews ?_ ?_ ?_ ?_) HBr.out.size <;> rfl))⟩
      case measure => simpa [intOf] using HJM.out.2
    · have hn : i = n := by omega
      subst hn
      have y1 : ¬ (i : Int) < (i : Int) := by omega
      have HB1r := hid (HB19.out.trans (HBr.out.mono HB19.out.size))
      clear hi hin
      go_wp2_with (first | (go_at_call 23; with_reducible refine (HT4.out _ HB1r.out).mono ?_; rintro e w10 ⟨vr, p10, c10, rfl, HTL10, HP10, HB10⟩; refine Hid.out ?_))
      obtain ⟨hva, hvb, hlf, hnv, hk⟩ := HH.out
      have hvr : vr = z := HTL10.out.one HZ.out
      subst hvr
      obtain ⟨kz, hkz⟩ : ∃ kz, vr.length = kz := ⟨_, rfl⟩
      rw [hkz] at hk hz20
      have HKZ := hid hkz
      have HK := hid hk
      have y4 : IntKind.i64.wrap ((i : Int) + 1) = (i : Int) + 1 := by simp [IntKind.wrap, IntKind.bits, IntKind.signed]; omega
      have y5 : IntKind.i64.wrap ((i : Int) + 1 + (kz : Int)) = (nv : Int) := by simp [IntKind.wrap, IntKind.bits, IntKind.signed]; omega
      rw [hkz]
      have HB9x := hid (show Below w9.heap.size w9 w10 from HBr.out.trans (HB10.out.mono HBr.out.size))
      clear hva hvb hlf hnv hk hkz
      refine hid ?_
      go_wp2_with fail
      go_loopw [14] (fun iv wr => ∃ j : Nat, j ≤ kz ∧ iv = .int .i64 j ∧ Hid (Below w10.heap.size w10 wr)) (fun iv _ => kz - (intOf iv).toNat)
      case atStart => exact ⟨0, Nat.zero_le _, rfl, hid (Below.refl _ _)⟩
      case round =>
        obtain ⟨j, hj, rfl, HBq⟩ := hrel
        by_cases hjn : j < kz
        · obtain ⟨hva, hvb, hlf, hnv, hk0⟩ := HH.out
          have hk := HK.out
          have hkz := HKZ.out
          have hif : j < vr.length := by omega
          obtain ⟨k', b0, b1, b2, b3, b4, b5, b6, hf0⟩ := HTL10.out.form vr[j] (List.getElem_mem hif)
          have he0 : vr[j] = (.agg #[.int .u8 (k' : Nat), .int .u64 (b0 : Nat), .int .u64 (b1 : Nat), .int .u64 (b2 : Nat), .int .u64 (b3 : Nat), .int .u64 (b4 : Nat), .int .u64 (b5 : Nat), .int .u64 (b6 : Nat)], vr[j].2) := by rw [← hf0]
          obtain ⟨E', hE⟩ : ∃ E, vr[j].2 = E := ⟨_, rfl⟩
          rw [hE] at he0
          have HP10' := HP10.out.on HBq.out
          rw [hkz] at HP10'
          obtain ⟨g10, hp10, d0, d1, d2, d3, d4, d5, d6, d7, d8⟩ := HP10'.at hif he0
          obtain ⟨t, ht⟩ : ∃ t, i + 1 + j = t := ⟨_, rfl⟩
          obtain ⟨g8', hp8, f0, f1, f2, f3, f4, f5, f6, f7, f8⟩ := ((HP89.out.on HB9x.out).on HBq.out).at (i := t) (by omega) (by
            have e2 : va[t]? = some vr[j] := by
              rw [hva, List.getElem?_append_right (by omega), hlf, show t - i = j + 1 by omega, List.getElem?_cons_succ]
              exact List.getElem?_eq_getElem hif
            rw [List.getElem?_eq_getElem (by omega)] at e2
            rw [← he0]; exact Option.some.inj e2)
          cases hp8
          subst hp10
          have NE := neP k' b0 b1 b2 b3 b4 b5 b6 E'
          have v1 : (j : Int) < (kz : Int) := by omega
          have v2 : (0 : Int) ≤ (j : Int) := by omega
          have v3 : (t : Int) < (nv : Int) := by omega
          have v4 : (0 : Int) ≤ (t : Int) := by omega
          have ct1 : ((j : Int)).toNat = j := by omega
          have ct2 : ((t : Int)).toNat = t := by omega
          have v5 : IntKind.i64.wrap ((i : Int) + 1 + (j : Int)) = (t : Int) := by simp [IntKind.wrap, IntKind.bits, IntKind.signed]; omega
          have wj : IntKind.i64.wrap ((j : Int) + 1) = ((j + 1 : Nat) : Int) := by simp [IntKind.wrap, IntKind.bits, IntKind.signed]; omega
          have HJM := hid (show j + 1 ≤ kz ∧ kz - (j + 1) < kz - j by omega)
          obtain ⟨j1, hj1⟩ : ∃ j1, j + 1 = j1 := ⟨_, rfl⟩
          rw [hj1] at wj HJM
          clear hva hvb hlf hnv hk hk0 hkz hif hf0 he0 hE hjn hj hj1 HP10' ht y5
          go_wp2_with fail
          go_quiet (fail)
          go_wp2_with fail
          go_roundw
          case rel => exact ⟨j1, HJM.out.1, rfl, hid (HBq.out.trans (by refine Below.mono (below_drews ?_ ?_ ?_ ?_) HBq.out.size <;> rfl))⟩
          case measure => simpa [intOf] using HJM.out.2
        · have hn : j = kz := by omega
          have v1 : ¬ (j : Int) < (kz : Int) := by omega
          subst hn
          clear hj hjn y5
          go_wp2_with fail
          go_ret
          refine ⟨rfl, HBW.out.trans (Below.mono ?_ HBW.out.size)⟩
          exact HB19.out.trans ((HB9x.out.trans (HBq.out.mono HB9x.out.size)).mono HB19.out.size)
end Go.Proofs.YtioohpdjmamhgaaDoor
