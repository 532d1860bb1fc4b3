/-
  The keys of a map of nets, sorted.
-/
import Derived.Test.YtegdhffejmbakaaNc
namespace Go.Proofs.Ytegdhffejmbakaa.Ac
open Go.RowKit Go.Deep Go.Maps Go.Sort Go.Shelf Go.Lib MonM Go.Proofs.Ytegdhffejmbakaa
set_option linter.unusedVariables false
set_option linter.unusedSimpArgs false
set_option maxHeartbeats 8000000
set_option maxRecDepth 100000
theorem hins0 (p : Option Addr) (c : Nat) (fv : Value) (w : World) : Calls Try.prog 69 #[.slice p 0 c, .int .i64 0, .int .i64 0, fv] w fun e w' => e = .returned (.tuple #[]) ∧ w' = w := by
  go_enter Try.func69, Try.ntmps69
  go_upto_region 1 with fail
  go_loopw [8] (fun iv wr => iv = .int .i64 1 ∧ w = wr) (fun iv _ => 1)
  case atStart => exact ⟨rfl, rfl⟩
  case round =>
    obtain ⟨rfl, rfl⟩ := hrel
    go_wp2
    go_end0
    exact ⟨rfl, rfl⟩
theorem hpdq0 (p : Option Addr) (c : Nat) (lim : Int) (fv : Value) (w : World) : Calls Try.prog 60 #[.slice p 0 c, .int .i64 0, .int .i64 0, .int .i64 lim, fv] w fun e w' => e = .returned (.tuple #[]) ∧ w' = w := by
  have CI := hid (hins0 p c fv w)
  go_enter Try.func60, Try.ntmps60
  go_upto_region 2 with fail
  go_loopw [1, 2] (fun av bv wr => av = .int .i64 0 ∧ bv = .int .i64 0 ∧ w = wr) (fun _ _ _ => 1)
  case atStart => exact ⟨rfl, rfl, rfl⟩
  case round =>
    obtain ⟨rfl, rfl, rfl⟩ := hrel
    go_wp2_with (go_at_call 69; with_reducible refine (CI.out).mono ?_; rintro e v1 ⟨rfl, hv⟩; subst hv)
    try simp only [Exit.inBlock, Exit.then]
    refine bodyPost_ret (results_none rfl _ _ _) rfl ?_
    exact ⟨rfl, rfl⟩
theorem hsort0 (p : Option Addr) (c : Nat) (fv : Value) (w : World) : Calls Try.prog 40 #[.slice p 0 c, fv] w fun e w' => e = .returned (.tuple #[]) ∧ w' = w := by
  have hL := hid (Try.bits_Len 0 w (by omega) (by omega))
  obtain ⟨k, hk⟩ : ∃ k, Lib.bitLen (0 : Int).toNat = k := ⟨_, rfl⟩
  rw [hk] at hL
  have CP := hid (hpdq0 p c k fv w)
  clear hk
  go_enter Try.func40, Try.ntmps40
  go_wp2_with (first | (go_at_call 61; with_reducible refine (hL.out).mono ?_; rintro e w9 ⟨rfl, h9⟩; subst w9) | (go_at_call 60; with_reducible refine (CP.out).mono ?_; rintro e v1 ⟨rfl, hv⟩; subst hv))
  go_end0
  exact ⟨rfl, rfl⟩
theorem hsortK_kp {w : World} {blk : Nat} (hb : blk < w.heap.size) (off m : Nat) (d : Array (Int × Int)) (os : Array Obj) : Kp (fun b => b = blk) w (sortWorldK hce 2 w blk off m d os) := by
  refine ⟨rfl, rfl, rfl, ?_, ?_⟩
  · simp [sortWorldK, grow, putRowK, Sort.ahead]
  · intro b hl hn
    have hs : (putRowK hce 2 (Sort.ahead w m) blk off d).heap.size = w.heap.size := by simp [putRowK, Sort.ahead]
    simp only [sortWorldK, grow]
    rw [Array.getElem?_append_left (by rw [hs]; exact hl)]
    simp only [putRowK, putRow, mapBlock, Array.getElem?_modify, Sort.ahead]
    rw [if_neg (fun e => hn e.symm)]
theorem hcs_len (l : List (Int × Int)) : (hcs l).length = l.length * 2 := by
  induction l with
  | nil => rfl
  | cons x l ih => simp only [hcs, List.flatMap_cons, List.length_append, List.length_cons] at ih ⊢; rw [ih]; simp [hce]; omega
theorem hcs_flat (l : List (Int × Int)) (j : Nat) (h : j < l.length * 2) : (hcs l)[j]? = some ((hce l[j / 2]!)[j % 2]!) := by
  have h1 := flat_at 2 hce (fun _ => rfl) l (j / 2) (j % 2) (by omega) (by omega)
  rw [show j / 2 * 2 + j % 2 = j by omega] at h1
  unfold hcs
  rw [h1, getElem!_pos l (j / 2) (by omega), getElem!_pos _ (j % 2) (by simp [hce]; omega)]
  exact List.getElem?_eq_getElem _
theorem own_holds {base : Nat} {w : World} {g c : Nat} {l : List (Int × Int)} (h : w.ownsRow base 73 2 (.slice (some ⟨g, 0, none⟩) l.length c) l.length (hcs l)) : HoldsK hce 2 w g 0 l.toArray := by
  intro j hj
  rw [size_flatK] at hj
  have hj' : j < l.length * 2 := by simpa using hj
  rw [get_flatK _ _ _ _ hj]
  refine ⟨?_, World.ownsRow.frozenAt h _⟩
  rw [Nat.zero_add, World.ownsRow.cellAt h j hj', hcs_flat l j hj']
  simp
/-- keys in a slice. -/
def Hz (w : World) (p : Option Addr) (l : List (Int × Int)) : Prop := ∀ i (h : i < l.length), ∃ b off, p = some ⟨b, off, none⟩ ∧ b < w.heap.size ∧ w.cell? ⟨b, off + i * 2, none⟩ = some (.int .u32 l[i].1) ∧ w.cell? ⟨b, off + i * 2 + 1, none⟩ = some (.int .u32 l[i].2)
def lxo (x y : Int × Int) : Prop := ¬ (y.1 < x.1 ∨ (y.1 = x.1 ∧ y.2 < x.2))
theorem hsort_own {base : Nat} {w : World} {p : Option Addr} {c : Nat} {l : List (Int × Int)} (h : w.ownsRow base 73 2 (.slice p l.length c) l.length (hcs l)) (hn : l.length ≤ 1000000000000) :
    Calls Try.prog 40 #[.slice p l.length c, .func (.func 18) #[] #[]] w fun e w' => e = .returned (.tuple #[]) ∧ ∃ l', l'.Perm l ∧ l'.Pairwise lxo ∧ Hz w' p l' ∧ Kp (fun b => base ≤ b) w w' := by
  by_cases h0 : l.length = 0
  · have e : l = [] := List.length_eq_zero_iff.1 h0
    subst e
    refine (hsort0 p c _ w).mono ?_
    rintro e w' ⟨rfl, rfl⟩
    exact ⟨rfl, [], List.Perm.refl _, List.Pairwise.nil, fun i hi => by simp at hi, Kp.refl _ _⟩
  · obtain ⟨g, rfl, hb, hgl⟩ := own_some h (by omega)
    have hH0 := own_holds h
    have hS := hsort_any g 0 c l.toArray w hH0 hgl (by simp; omega)
    simp only [List.size_toArray] at hS
    refine hS.mono ?_
    rintro e w8 ⟨rfl, d', m8, os8, hP, hSo, hw8⟩
    have hsz : d'.size = l.length := by have := hP.1; simpa using this
    have hk8 : Kp (fun b => b = g) w w8 := by rw [hw8]; exact hsortK_kp hgl 0 m8 d' os8
    have hH8 : HoldsK hce 2 w8 g 0 d' := by
      rw [hw8]
      exact holdsK_grow _ _ _ _ _ _ _ (by simp [putRowK, Sort.ahead]; exact hgl) (holdsK_putRowK _ _ _ _ _ _ _ (holdsK_ahead _ _ _ _ _ _ _ hH0) (by simpa using hsz))
    refine ⟨rfl, d'.toList, ?_, ?_, ?_, ⟨hk8.os, hk8.tape, hk8.output, hk8.size, fun b hb2 hne => hk8.obj b hb2 (fun e => hne (by rw [e]; exact hb))⟩⟩
    · have h7 := hP.2.2
      have h8 : (d'.extract 0 l.toArray.size).toList = d'.toList := by
        rw [show l.toArray.size = d'.size by simp [hsz]]; simp
      have h9 : (l.toArray.extract 0 l.toArray.size).toList = l := by simp
      simp only [List.size_toArray] at h7 h8 h9
      rw [h8, h9] at h7
      exact h7
    · rw [List.pairwise_iff_getElem]
      intro a b ha hb hab
      have h9 := hSo a b (Nat.zero_le _) hab (by simp at hb; omega)
      rw [ltH] at h9
      simp at ha hb
      unfold lxo
      simpa [getElem!_pos, ha, hb] using h9
    · intro a ha
      have ha' : a < d'.size := by simpa using ha
      have q0 := (hH8.cell ha' (c := 0) (by omega)).1
      have q1 := (hH8.cell ha' (c := 1) (by omega)).1
      simp only [Nat.zero_add, Nat.add_zero, getElem!_pos, ha'] at q0 q1
      simp only [Array.getElem_toList]
      refine ⟨g, 0, rfl, Nat.lt_of_lt_of_le hgl hk8.size, ?_, ?_⟩
      · rw [Nat.zero_add]; exact q0
      · rw [Nat.zero_add]; exact q1
theorem KsN.perm {f : Ks2} {l l' : List (Int × Int)} (h : KsN f l) (hp : l'.Perm l) : KsN f l' :=
  ⟨hp.nodup_iff.2 h.nd, fun x hx => h.u x (hp.mem_iff.1 hx), fun m hm => (hp.mem_iff).trans (h.iff m hm)⟩
attribute [local go_sem ↓] Go.wp_at_zero Go.wp_at_succ
theorem hsorted_any (lb : Array Value) (f : Ks2) (N : Nat) (hN : N ≤ 1000000000000) (w : World) (hseq : SeqGives Fence.wide 1 Try.prog 41 lb ivH (fun ss => KsN f ss ∧ ss.length ≤ N) N w) :
    Calls Try.prog 16 #[.func (.func 41) #[] lb, .func (.func 18) #[] #[]] w fun e w' => ∃ (l : List (Int × Int)) (q : Option Addr) (d n : Nat), l.length = n ∧ e = .returned (.slice q n d) ∧ KsN f l ∧ l.Pairwise lxo ∧ n ≤ N ∧ Hz w' q l ∧ Below w.heap.size w w' := by
  have C := hid (hcollect_any lb _ N hN w hseq)
  clear hseq
  go_enter Try.func16, Try.ntmps16
  go_upto_region 2 with (go_at_call 39; with_reducible refine C.out.mono ?_; rintro e w1 ⟨v, ss, rfl, ⟨h1, h4⟩, h2, h3⟩; obtain ⟨q, d, rfl⟩ := own_form h2; have H1 := hid h1; have H2 := hid h2; have H3 := hid h3; have H4 := hid h4; clear h1 h2 h3 h4)
  have CS := hid (hsort_own H2.out (by have := H4.out; omega))
  obtain ⟨n, hn⟩ : ∃ n, ss.length = n := ⟨_, rfl⟩
  have HN := hid hn
  rw [hn] at CS ⊢
  clear hn C
  go_wp2_with (go_at_call 40; with_reducible refine CS.out.mono ?_; rintro e w4 ⟨rfl, l', hp, hs, hu, hkk⟩; have HP := hid hp; have HS := hid hs; have HU := hid hu; have HKK := hid hkk; clear hp hs hu hkk)
  go_ret
  exact ⟨l', q, d, n, by rw [HP.out.length_eq, HN.out], rfl, H1.out.perm HP.out, HS.out, by rw [← HN.out]; exact H4.out, HU.out, H3.out.trans (HKK.out.below H3.out.size (fun j hj e => by omega))⟩
/-- what slices.SortedFunc of maps.Keys says of a map of nets. -/
theorem hkeysOf_any {w : World} {b k : Nat} {f : Ks2} (h : Mp kvN w b k f) (hk : k ≤ 1000000000000) :
    ∃ W, Calls Try.prog 17 #[.map (some b)] w (fun e w' => e = .returned (.func (.func 41) #[] #[.pointer (some ⟨w.heap.size, 0, none⟩)]) ∧ w' = W) ∧ Below w.heap.size w W ∧
      Calls Try.prog 16 #[.func (.func 41) #[] #[.pointer (some ⟨w.heap.size, 0, none⟩)], .func (.func 18) #[] #[]] W fun e w' => ∃ (l : List (Int × Int)) (q : Option Addr) (d n : Nat), l.length = n ∧ e = .returned (.slice q n d) ∧ KsN f l ∧ l.Pairwise lxo ∧ n ≤ k ∧ Hz w' q l ∧ Below W.heap.size W w' := by
  obtain ⟨W, hW⟩ : ∃ W, w.alloc (.cells #[.map (some b)] 67) = W := ⟨_, rfl⟩
  have HB : Below w.heap.size w W := by rw [← hW]; exact ball _ _
  have hcell : W.cell? ⟨w.heap.size, 0, none⟩ = some (.map (some b)) := by
    have : W.heap[w.heap.size]? = some (.cells #[.map (some b)] 67 (0, 0)) := by rw [← hW]; exact World.alloc_heap_new _ _
    exact row_cell this 0
  obtain ⟨N, hN, hseq⟩ := kn_gives Fence.wide 1 trivial rfl (Nat.le_refl _) w.heap.size b k f W (by rw [← hW]; simp) hcell (h.on HB)
  refine ⟨W, by rw [← hW]; exact hkeys_any _ w, HB, (hsorted_any _ f N (by omega) W hseq).mono ?_⟩
  rintro e w' ⟨l, q, d, n, h1, h2, h3, h4, h5, h6⟩
  exact ⟨l, q, d, n, h1, h2, h3, h4, by omega, h6⟩
/-- the nets of what f says. -/
def netsOf (f : Ks2) (l : List (Int × Int)) : List Nt := l.map (fun x => ⟨x.1, x.2, ((f x).getD n0).b, ((f x).getD n0).s, ((f x).getD n0).a⟩)
theorem relnOf {f : Ks2} {l : List (Int × Int)} (h : KsN f l) (hs : l.Pairwise lxo) (ha : ∀ x v, f x = some v → v.ok) : RelN f (netsOf f l) := by
  refine ⟨?_, fun x hx => ?_, fun m i v hm hi => ?_⟩
  · unfold netsOf
    rw [List.map_map]
    rw [List.pairwise_map]
    have h1 := h.nd
    refine List.Pairwise.imp_of_mem (fun {a b} ha hb hab => ?_) (hs.and h1)
    have ua := h.u a ha
    have ub := h.u b hb
    show ky a.1 a.2 < ky b.1 b.2
    rw [ky_lt ua.1 ua.2 ub.1 ub.2]
    obtain ⟨h2, h3⟩ := hab
    unfold lxo at h2
    have h4 : ¬ (a.1 = b.1 ∧ a.2 = b.2) := fun e => h3 (Prod.ext e.1 e.2)
    omega
  · obtain ⟨k, hk, rfl⟩ := List.mem_map.1 hx
    have hu := h.u k hk
    have := (h.iff k hu).1 hk
    obtain ⟨v, hv⟩ := Option.isSome_iff_exists.1 this
    have hok := ha k v hv
    refine ⟨hu.1, hu.2, ?_⟩
    simp only [hv, Option.getD_some]
    exact ⟨hok.1, hok.2.1, hok.2.2⟩
  · unfold netsOf
    rw [List.mem_map]
    constructor
    · intro e
      exact ⟨(m, i), (h.iff (m, i) ⟨hm, hi⟩).2 (by rw [e]; rfl), by rw [e]; rfl⟩
    · rintro ⟨k, hk, e⟩
      obtain ⟨k1, k2⟩ := k
      injection e with e1 e2 e3 e4 e5
      simp only at e1 e2
      subst e1 e2
      have := (h.iff _ ⟨hm, hi⟩).1 hk
      obtain ⟨u, hu⟩ := Option.isSome_iff_exists.1 this
      simp only [hu, Option.getD_some] at e3 e4 e5
      obtain ⟨ub, us, ua⟩ := u
      obtain ⟨vb, vs, va⟩ := v
      simp only at e3 e4 e5
      rw [hu, e3, e4, e5]
end Go.Proofs.Ytegdhffejmbakaa.Ac
namespace Go.Proofs.Ytegdhffejmbakaa.Ac
open Go.RowKit Go.Deep Go.Maps MonM Go.Proofs.Ytegdhffejmbakaa
set_option linter.unusedVariables false
set_option linter.unusedSimpArgs false
set_option maxHeartbeats 8000000
set_option maxRecDepth 100000
attribute [local go_sem ↓] Go.wp_at_zero Go.wp_at_succ
theorem isPrice_any (p : Int) (w : World) : Calls Try.prog 35 #[.int .i64 p] w fun e w' => e = .returned (.bool (decide (0 ≤ p ∧ p < 262144))) ∧ w' = w := by
  by_cases h1 : 0 ≤ p
  · by_cases h2 : p < 262144
    · have e : decide (0 ≤ p ∧ p < 262144) = true := by simp [h1, h2]
      rw [e]
      clear e
      go_enter Try.func35, Try.ntmps35
      go_wp2
      go_ret
      exact ⟨rfl, rfl⟩
    · have e : decide (0 ≤ p ∧ p < 262144) = false := by simp [h2]
      rw [e]
      clear e
      go_enter Try.func35, Try.ntmps35
      go_wp2
      go_ret
      exact ⟨rfl, rfl⟩
  · have e : decide (0 ≤ p ∧ p < 262144) = false := by simp [h1]
    rw [e]
    clear e
    go_enter Try.func35, Try.ntmps35
    go_wp2
    go_ret
    exact ⟨rfl, rfl⟩
def drow (d : Dl) : Array Value := #[.int .u32 d.ins, .int .u32 d.buy, .int .u32 d.sel, .int .i64 d.tk, .int .i64 d.pr, .int .u64 d.q]
def dv (d : Dl) : Value := .agg (drow d)
theorem badTerms_any (d : Dl) (w : World) : Calls Try.prog 14 #[dv d] w fun e w' => e = .returned (.int .i64 (terr d)) ∧ Below w.heap.size w w' := by
  obtain ⟨i, b, s, t, p, q⟩ := d
  have CP := hid (fun U => isPrice_any p U)
  obtain ⟨r, hr⟩ : ∃ r, decide (0 ≤ p ∧ p < 262144) = r := ⟨_, rfl⟩
  have HR := hid hr
  rw [hr] at CP
  clear hr
  obtain ⟨W, hW⟩ : ∃ W, w.alloc (.cells #[.int .u32 i, .int .u32 b, .int .u32 s, .int .i64 t, .int .i64 p, .int .u64 q] 26) = W := ⟨_, rfl⟩
  have BW := hid (show Below w.heap.size w W from by rw [← hW]; exact ball _ _)
  have RW := hid (show W.heap[w.heap.size]? = some (.cells #[.int .u32 i, .int .u32 b, .int .u32 s, .int .i64 t, .int .i64 p, .int .u64 q] 26 (0, 0)) from by rw [← hW]; exact World.alloc_heap_new _ _)
  have g4 := row_cell RW.out 4
  have g5 := row_cell RW.out 5
  simp only [List.getElem?_toArray, List.getElem?_cons_succ, List.getElem?_cons_zero] at g4 g5
  have HT := hid (show terr ⟨i, b, s, t, p, q⟩ = if r = true then (if q < 1 ∨ 4294967295 < q then 95 else 0) else 94 from by
    unfold terr
    rw [← HR.out]
    by_cases h : 0 ≤ p ∧ p < 262144
    · simp only [h, decide_true, and_self, if_true]
      rw [if_neg (by omega)]
    · simp only [h, decide_false, Bool.false_eq_true, if_false]
      rw [if_pos (by omega)])
  rw [HT.out]
  cases r with
  | false =>
    unfold dv drow
    go_enter Try.func14, Try.ntmps14
    go_wp2_with (first | (go_at_call 35; with_reducible refine (CP.out _).mono ?_; rintro e w9 ⟨rfl, h9⟩; subst w9) | rw [hW])
    refine bodyPost_ret (v := .int .i64 94) (by simp [results, Try.results14, go_sem]) rfl ⟨rfl, BW.out⟩
  | true =>
    by_cases h1 : q < 1
    · have e : (if q < 1 ∨ 4294967295 < q then 95 else 0 : Int) = 95 := if_pos (.inl h1)
      simp only [if_true]
      rw [e]
      clear e
      unfold dv drow
      go_enter Try.func14, Try.ntmps14
      go_wp2_with (first | (go_at_call 35; with_reducible refine (CP.out _).mono ?_; rintro e w9 ⟨rfl, h9⟩; subst w9) | rw [hW])
      refine bodyPost_ret (v := .int .i64 95) (by simp [results, Try.results14, go_sem]) rfl ⟨rfl, BW.out⟩
    · by_cases h2 : 4294967295 < q
      · have e : (if q < 1 ∨ 4294967295 < q then 95 else 0 : Int) = 95 := if_pos (.inr h2)
        simp only [if_true]
        rw [e]
        clear e
        unfold dv drow
        go_enter Try.func14, Try.ntmps14
        go_wp2_with (first | (go_at_call 35; with_reducible refine (CP.out _).mono ?_; rintro e w9 ⟨rfl, h9⟩; subst w9) | rw [hW])
        refine bodyPost_ret (v := .int .i64 95) (by simp [results, Try.results14, go_sem]) rfl ⟨rfl, BW.out⟩
      · have e : (if q < 1 ∨ 4294967295 < q then 95 else 0 : Int) = 0 := if_neg (by omega)
        simp only [if_true]
        rw [e]
        clear e
        unfold dv drow
        go_enter Try.func14, Try.ntmps14
        go_wp2_with (first | (go_at_call 35; with_reducible refine (CP.out _).mono ?_; rintro e w9 ⟨rfl, h9⟩; subst w9) | rw [hW])
        refine bodyPost_ret (v := .int .i64 0) (by simp [results, Try.results14, go_sem]) rfl ⟨rfl, BW.out⟩
theorem value_any (d : Dl) (w : World) (h0 : 0 ≤ d.pr) (h1 : d.pr < 262144) (hq : Word d.q) : Calls Try.prog 37 #[dv d] w fun e w' => e = .returned (mv (d.pr * d.q)) ∧ Below w.heap.size w w' := by
  obtain ⟨i, b, s, t, p, q⟩ := d
  have C := hid (fun U => numTimes_any p q U h0 (Int.lt_trans h1 (by decide)) hq)
  have wp : IntKind.u32.wrap p = p := by have h0 : 0 ≤ p := h0; have h1 : p < 262144 := h1; rw [IntKind.wrap_u32]; omega
  clear h0 h1 hq
  obtain ⟨W, hW⟩ : ∃ W, w.alloc (.cells #[.int .u32 i, .int .u32 b, .int .u32 s, .int .i64 t, .int .i64 p, .int .u64 q] 26) = W := ⟨_, rfl⟩
  have BW := hid (show Below w.heap.size w W from by rw [← hW]; exact ball _ _)
  have RW := hid (show W.heap[w.heap.size]? = some (.cells #[.int .u32 i, .int .u32 b, .int .u32 s, .int .i64 t, .int .i64 p, .int .u64 q] 26 (0, 0)) from by rw [← hW]; exact World.alloc_heap_new _ _)
  obtain ⟨Z, hZ⟩ : ∃ Z, W.alloc (.cells #[.int .u64 0, .int .u64 0] 35) = Z := ⟨_, rfl⟩
  have BZ := hid (show Below W.heap.size W Z from by rw [← hZ]; exact ball _ _)
  have RZ := hid (show Z.heap[W.heap.size]? = some (.cells #[.int .u64 0, .int .u64 0] 35 (0, 0)) from by rw [← hZ]; exact World.alloc_heap_new _ _)
  have RY := hid (row_on RW.out BZ.out)
  have g4 := row_cell RY.out 4
  have g5 := row_cell RY.out 5
  simp only [List.getElem?_toArray, List.getElem?_cons_succ, List.getElem?_cons_zero] at g4 g5
  obtain ⟨g, hg⟩ : ∃ g, W.heap.size = g := ⟨_, rfl⟩
  have HG := hid (show w.heap.size ≤ g from by rw [← hg]; exact BW.out.size)
  rw [hg] at RZ
  obtain ⟨v, hv⟩ : ∃ v, p * q = v := ⟨_, rfl⟩
  show Calls Try.prog 37 #[.agg #[.int .u32 i, .int .u32 b, .int .u32 s, .int .i64 t, .int .i64 p, .int .u64 q]] w fun e w' => e = .returned (mv (p * q)) ∧ Below w.heap.size w w'
  rw [hv] at C ⊢
  go_enter Try.func37, Try.ntmps37
  go_wp2_with (first | (go_at_call 58; with_reducible refine (C.out _).mono ?_; rintro e X ⟨rfl, hX⟩; have HX := hid hX; clear hX; have RX := hid (row_on RZ.out HX.out)) | (unfold mv; refine wpList_store_row (by rfl) 35 (.tmp 2) (.tmp 8) (by rfl) g #[.int .u64 (hiW v), .int .u64 (loW v)] (by rfl) (by rfl) 35 _ RX.out infoM2 (by rfl) (by simp [Value.oneCell']) ?_) | (rw [hW, hZ, hg]))
  exact bodyPost_ret (Dm.res_c Try.results37 _ _ g 35 #[.int .u64 (hiW v), .int .u64 (loW v)] (0, 0) _ (by rfl) (setRow_heap _ _ _ _ 35 (0, 0) RX.out) Try.underlying35 rfl infoM2) rfl ⟨rfl, Dm.setRow_below (btr (btr BW.out BZ.out) HX.out) HG.out⟩
theorem plus_any (a b : Int) (w : World) (ha : Amt a) (hb : Amt b) : Calls Try.prog 36 #[mv a, mv b] w fun e w' => e = .returned (mv (maddV a b)) ∧ Below w.heap.size w w' := by
  have C := hid (fun U => madd_any a b U ha hb)
  obtain ⟨n, hn⟩ : ∃ n, maddV a b = n := ⟨_, rfl⟩
  obtain ⟨er, her⟩ : ∃ n, maddE a b = n := ⟨_, rfl⟩
  rw [hn, her] at C
  rw [hn]
  clear ha hb hn her
  obtain ⟨g2, hg2⟩ : ∃ g, w.heap.size = g := ⟨_, rfl⟩
  obtain ⟨Wa, hWa⟩ : ∃ W, w.alloc (.cells #[.int .u64 (hiW a), .int .u64 (loW a)] 35) = W := ⟨_, rfl⟩
  obtain ⟨g3, hg3⟩ : ∃ g, Wa.heap.size = g := ⟨_, rfl⟩
  obtain ⟨Wb, hWb⟩ : ∃ W, Wa.alloc (.cells #[.int .u64 (hiW b), .int .u64 (loW b)] 35) = W := ⟨_, rfl⟩
  obtain ⟨g4, hg4⟩ : ∃ g, Wb.heap.size = g := ⟨_, rfl⟩
  obtain ⟨Wc, hWc⟩ : ∃ W, Wb.alloc (.cells #[.int .u64 0, .int .u64 0] 35) = W := ⟨_, rfl⟩
  have ba : Below w.heap.size w Wa := by rw [← hWa]; exact ball _ _
  have bb : Below Wa.heap.size Wa Wb := by rw [← hWb]; exact ball _ _
  have bc : Below Wb.heap.size Wb Wc := by rw [← hWc]; exact ball _ _
  have R2b := hid (show Wb.heap[g2]? = some (.cells #[.int .u64 (hiW a), .int .u64 (loW a)] 35 (0, 0)) from row_on (by rw [← hWa, ← hg2]; exact World.alloc_heap_new _ _) bb)
  have R3b := hid (show Wb.heap[g3]? = some (.cells #[.int .u64 (hiW b), .int .u64 (loW b)] 35 (0, 0)) from by rw [← hWb, ← hg3]; exact World.alloc_heap_new _ _)
  have HBC := hid bc
  have HG4 := hid (show Wb.heap.size ≤ g4 from by rw [hg4]; exact Nat.le_refl _)
  have HBB := hid (btr ba bb)
  have R2 := hid (show Wc.heap[g2]? = some (.cells #[.int .u64 (hiW a), .int .u64 (loW a)] 35 (0, 0)) from row_on (row_on (by rw [← hWa, ← hg2]; exact World.alloc_heap_new _ _) bb) bc)
  have R3 := hid (show Wc.heap[g3]? = some (.cells #[.int .u64 (hiW b), .int .u64 (loW b)] 35 (0, 0)) from row_on (by rw [← hWb, ← hg3]; exact World.alloc_heap_new _ _) bc)
  have R4 := hid (show Wc.heap[g4]? = some (.cells #[.int .u64 0, .int .u64 0] 35 (0, 0)) from by rw [← hWc, ← hg4]; exact World.alloc_heap_new _ _)
  have BC := hid (btr (btr ba bb) bc)
  have HG := hid (show w.heap.size ≤ g4 from by rw [← hg4]; exact (btr ba bb).size)
  have HGc := hid (show g4 < Wc.heap.size from row_lt R4.out)
  have k0 := row_cell R2.out 0
  have k1 := row_cell R2.out 1
  have k2 := row_cell R3.out 0
  have k3 := row_cell R3.out 1
  simp only [List.getElem?_toArray, List.getElem?_cons_succ, List.getElem?_cons_zero] at k0 k1 k2 k3
  clear ba bb bc
  unfold mv at C ⊢
  go_enter Try.func36, Try.ntmps36
  go_upto_region 1 with fail
  go_upto_region 2 with (first | (go_at_call 25; with_reducible refine (C.out _).mono ?_; rintro e X ⟨rfl, hX⟩; have HX := hid hX; clear hX; have HZ := hid (World.alloc_heap_new X (.cells #[.int .u64 0, .int .u64 0] 35))) | (refine wpList_store_row (by rfl) 35 (.tmp 5) (.tmp 11) (by rfl) X.heap.size #[.int .u64 (hiW n), .int .u64 (loW n)] (by rfl) (by rfl) 35 _ HZ.out infoM2 (by rfl) (by simp [Value.oneCell']) ?_))
  obtain ⟨Y, hY⟩ : ∃ Y, (X.alloc (.cells #[.int .u64 0, .int .u64 0] 35)).setRow X.heap.size #[.int .u64 (hiW n), .int .u64 (loW n)] = Y := ⟨_, rfl⟩
  have GY := hid (show Y.heap[X.heap.size]? = some (.cells #[.int .u64 (hiW n), .int .u64 (loW n)] 35 (0, 0)) from by rw [← hY]; exact setRow_heap _ _ _ _ 35 (0, 0) HZ.out)
  have BY := hid (show Below X.heap.size X Y from by rw [← hY]; exact Dm.setRow_below (ball _ _) (Nat.le_refl _))
  rw [hY]
  obtain ⟨y, hy⟩ : ∃ y, X.heap.size = y := ⟨_, rfl⟩
  rw [hy] at GY ⊢
  have RY := hid (row_on (row_on R4.out HX.out) BY.out)
  clear hY hy HZ k0 k1 k2 k3
  have k0 := row_cell GY.out 0
  have k1 := row_cell GY.out 1
  simp only [List.getElem?_toArray, List.getElem?_cons_succ, List.getElem?_cons_zero] at k0 k1
  go_wp2_with (refine wpList_store_row (by rfl) 35 (.tmp 4) (.tmp 13) (by rfl) g4 #[.int .u64 (hiW n), .int .u64 (loW n)] (by rfl) (by rfl) 35 _ RY.out infoM2 (by rfl) (by simp [Value.oneCell']) ?_)
  exact bodyPost_ret (Dm.res_c Try.results36 _ _ g4 35 #[.int .u64 (hiW n), .int .u64 (loW n)] (0, 0) _ (by rfl) (setRow_heap _ _ _ _ 35 (0, 0) RY.out) Try.underlying35 rfl infoM2) rfl ⟨rfl, Dm.setRow_below (btr (btr BC.out HX.out) BY.out) HG.out⟩
theorem less_any (a b : Int) (w : World) (ha : Amt a) (hb : Amt b) : Calls Try.prog 38 #[mv a, mv b] w fun e w' => e = .returned (mv (maddV a (-b))) ∧ Below w.heap.size w w' := by
  have CN := hid (fun U => neg_any b U)
  have CP := hid (fun U => plus_any a (-b) U ha (amt_neg b hb))
  obtain ⟨n, hn⟩ : ∃ n, maddV a (-b) = n := ⟨_, rfl⟩
  rw [hn] at CP
  rw [hn]
  clear ha hb hn
  obtain ⟨g2, hg2⟩ : ∃ g, w.heap.size = g := ⟨_, rfl⟩
  obtain ⟨Wa, hWa⟩ : ∃ W, w.alloc (.cells #[.int .u64 (hiW a), .int .u64 (loW a)] 35) = W := ⟨_, rfl⟩
  obtain ⟨g3, hg3⟩ : ∃ g, Wa.heap.size = g := ⟨_, rfl⟩
  obtain ⟨Wb, hWb⟩ : ∃ W, Wa.alloc (.cells #[.int .u64 (hiW b), .int .u64 (loW b)] 35) = W := ⟨_, rfl⟩
  obtain ⟨g4, hg4⟩ : ∃ g, Wb.heap.size = g := ⟨_, rfl⟩
  obtain ⟨Wc, hWc⟩ : ∃ W, Wb.alloc (.cells #[.int .u64 0, .int .u64 0] 35) = W := ⟨_, rfl⟩
  have ba : Below w.heap.size w Wa := by rw [← hWa]; exact ball _ _
  have bb : Below Wa.heap.size Wa Wb := by rw [← hWb]; exact ball _ _
  have bc : Below Wb.heap.size Wb Wc := by rw [← hWc]; exact ball _ _
  have R2b := hid (show Wb.heap[g2]? = some (.cells #[.int .u64 (hiW a), .int .u64 (loW a)] 35 (0, 0)) from row_on (by rw [← hWa, ← hg2]; exact World.alloc_heap_new _ _) bb)
  have R3b := hid (show Wb.heap[g3]? = some (.cells #[.int .u64 (hiW b), .int .u64 (loW b)] 35 (0, 0)) from by rw [← hWb, ← hg3]; exact World.alloc_heap_new _ _)
  have HBC := hid bc
  have HG4 := hid (show Wb.heap.size ≤ g4 from by rw [hg4]; exact Nat.le_refl _)
  have HBB := hid (btr ba bb)
  have R2 := hid (show Wc.heap[g2]? = some (.cells #[.int .u64 (hiW a), .int .u64 (loW a)] 35 (0, 0)) from row_on (row_on (by rw [← hWa, ← hg2]; exact World.alloc_heap_new _ _) bb) bc)
  have R3 := hid (show Wc.heap[g3]? = some (.cells #[.int .u64 (hiW b), .int .u64 (loW b)] 35 (0, 0)) from row_on (by rw [← hWb, ← hg3]; exact World.alloc_heap_new _ _) bc)
  have R4 := hid (show Wc.heap[g4]? = some (.cells #[.int .u64 0, .int .u64 0] 35 (0, 0)) from by rw [← hWc, ← hg4]; exact World.alloc_heap_new _ _)
  have BC := hid (btr (btr ba bb) bc)
  have HG := hid (show w.heap.size ≤ g4 from by rw [← hg4]; exact (btr ba bb).size)
  have HGc := hid (show g4 < Wc.heap.size from row_lt R4.out)
  clear ba bb bc
  have K0 := hid (show ∀ U, Below Wb.heap.size Wb U → U.cell? ⟨g2, 0, none⟩ = some (.int .u64 (hiW a)) from fun U hU => row_cell (row_on R2b.out hU) 0)
  have K1 := hid (show ∀ U, Below Wb.heap.size Wb U → U.cell? ⟨g2, 1, none⟩ = some (.int .u64 (loW a)) from fun U hU => row_cell (row_on R2b.out hU) 1)
  have K2 := hid (show ∀ U, Below Wb.heap.size Wb U → U.cell? ⟨g3, 0, none⟩ = some (.int .u64 (hiW b)) from fun U hU => row_cell (row_on R3b.out hU) 0)
  have K3 := hid (show ∀ U, Below Wb.heap.size Wb U → U.cell? ⟨g3, 1, none⟩ = some (.int .u64 (loW b)) from fun U hU => row_cell (row_on R3b.out hU) 1)
  unfold mv at CN CP ⊢
  go_enter Try.func38, Try.ntmps38
  go_upto_region 1 with fail
  obtain ⟨V1, hV1⟩ : ∃ U, Wc.drew = U := ⟨_, rfl⟩
  have DV1 := hid (show Below Wc.heap.size Wc V1 from by rw [← hV1]; exact bdrew1 _)
  have BV1 := hid (btr (HBC.out) DV1.out)
  have Rw2 := hid (row_on R4.out DV1.out)
  refine wp_region_held_drew (S := fun U => U.cell? ⟨g2, 0, none⟩ = some (.int .u64 (hiW a)) ∧ U.cell? ⟨g2, 1, none⟩ = some (.int .u64 (loW a)) ∧ U.cell? ⟨g3, 0, none⟩ = some (.int .u64 (hiW b)) ∧ U.cell? ⟨g3, 1, none⟩ = some (.int .u64 (loW b))) (by kernel_rfl) ?_ (fun hHeld => ?_)
  · (try dsimp only); rw [hV1]; exact ⟨K0.out _ BV1.out, K1.out _ BV1.out, K2.out _ BV1.out, K3.out _ BV1.out⟩
  rw [hV1] at hHeld ⊢
  clear hV1
  refine' wpAnyH_take (i := 0) (oi := _) (v := _) rfl (by kernel_rfl) (by kernel_rfl) (by kernel_rfl) (fun _ _ _ h => h) (Or.inl ⟨by kernel_rfl, ?_⟩) (by assumption) ?_
  rotate_left
  · (intro w hSw; (try dsimp only at hSw); go_simp; try (with_reducible rfl))
  try simp only [List.getElem_toArray, List.getElem_cons_succ, List.getElem_cons_zero, Act.put, List.setIfInBounds_toArray, List.set_cons_zero, List.set_cons_succ]
  refine' wpAnyH_take (i := 1) (oi := _) (v := _) rfl (by kernel_rfl) (by kernel_rfl) (by kernel_rfl) (fun _ _ _ h => h) (Or.inl ⟨by kernel_rfl, ?_⟩) (by assumption) ?_
  rotate_left
  · (intro w hSw; (try dsimp only at hSw); go_simp; try (with_reducible rfl))
  try simp only [List.getElem_toArray, List.getElem_cons_succ, List.getElem_cons_zero, Act.put, List.setIfInBounds_toArray, List.set_cons_zero, List.set_cons_succ]
  refine wpAnyH_ready (rs := [2]) (by kernel_rfl) (by simp) ?_
  refine (AllReadyH.cons (o := _) rfl (fun K hK => ?_) AllReadyH.nil)
  go_simp
  go_at_call 56
  with_reducible refine (CN.out V1).mono ?_
  rintro e X3 ⟨rfl, DbX3⟩
  have DX3 := hid (btr DV1.out DbX3)
  have BX3 := hid (btr BV1.out DbX3)
  have Rw4 := hid (row_on Rw2.out DbX3)
  (try go_wp2_with fail)
  refine hK.out _ _ ?_ (fun hHeld => ?_)
  · (try dsimp only); exact ⟨K0.out _ BX3.out, K1.out _ BX3.out, K2.out _ BX3.out, K3.out _ BX3.out⟩
  clear hK K
  try simp only [List.getElem_toArray, List.getElem_cons_succ, List.getElem_cons_zero, Act.put, List.setIfInBounds_toArray, List.set_cons_zero, List.set_cons_succ]
  refine wpAnyH_ready (rs := [3]) (by kernel_rfl) (by simp) ?_
  refine (AllReadyH.cons (o := _) rfl (fun K hK => ?_) AllReadyH.nil)
  go_simp
  go_at_call 36
  with_reducible refine (CP.out X3).mono ?_
  rintro e X5 ⟨rfl, DbX5⟩
  have DX5 := hid (btr DX3.out DbX5)
  have BX5 := hid (btr BX3.out DbX5)
  have Rw6 := hid (row_on Rw4.out DbX5)
  (try go_wp2_with fail)
  refine hK.out _ _ ?_ (fun hHeld => ?_)
  · (try dsimp only); exact ⟨K0.out _ BX5.out, K1.out _ BX5.out, K2.out _ BX5.out, K3.out _ BX5.out⟩
  clear hK K
  try simp only [List.getElem_toArray, List.getElem_cons_succ, List.getElem_cons_zero, Act.put, List.setIfInBounds_toArray, List.set_cons_zero, List.set_cons_succ]
  refine wpAnyH_ready (rs := [4]) (by kernel_rfl) (by simp) ?_
  refine (AllReadyH.cons (o := _) rfl (fun K hK => ?_) AllReadyH.nil)
  refine step_store_row (by rfl) 35 (.tmp 4) (.tmp 8) (by rfl) g4 #[.int .u64 (hiW n), .int .u64 (loW n)] (by rfl) (by rfl) 35 _ Rw6.out infoM2 (by rfl) (by simp [Value.oneCell']) ?_
  have AY7 := hid (setRow_heap X5 g4 _ #[.int .u64 (hiW n), .int .u64 (loW n)] 35 (0, 0) Rw6.out)
  have BY7 := hid (Dm.setRow_below (cs := #[.int .u64 (hiW n), .int .u64 (loW n)]) BX5.out HG4.out)
  obtain ⟨Y7, hY7⟩ : ∃ Y, X5.setRow g4 #[.int .u64 (hiW n), .int .u64 (loW n)] = Y := ⟨_, rfl⟩
  rw [hY7] at AY7 BY7 ⊢
  clear hY7
  refine hK.out _ _ ?_ (fun hHeld => ?_)
  · (try dsimp only); exact ⟨K0.out _ BY7.out, K1.out _ BY7.out, K2.out _ BY7.out, K3.out _ BY7.out⟩
  clear hK K
  try simp only [List.getElem_toArray, List.getElem_cons_succ, List.getElem_cons_zero, Act.put, List.setIfInBounds_toArray, List.set_cons_zero, List.set_cons_succ]
  refine wpAnyH_done (by kernel_rfl) ?_ _
  go_wp2
  exact bodyPost_ret (Dm.res_c Try.results38 _ _ g4 35 #[.int .u64 (hiW n), .int .u64 (loW n)] (0, 0) _ (by rfl) AY7.out Try.underlying35 rfl infoM2) rfl ⟨rfl, btr HBB.out BY7.out⟩
end Go.Proofs.Ytegdhffejmbakaa.Ac
