/-
  CnE
-/
import Derived.Test.YtlhbgaiiehljpaaGreatGAx
namespace Go.Proofs.YtlhbgaiiehljpaaGreat.Ac
open Go.RowKit Go.Deep Go.Maps Go.Sort Go.Shelf Go.Lib MonM Go.Proofs.YtlhbgaiiehljpaaGreat
set_option linter.unusedVariables false
set_option linter.unusedSimpArgs false
set_option maxHeartbeats 8000000
set_option maxRecDepth 100000
theorem hins0 (p : Option Addr) (c : Nat) (fv : Value) (w : World) : Calls Tryz.prog 90 #[.slice p 0 c, .int .i64 0, .int .i64 0, fv] w fun e w' => e = .returned (.tuple #[]) ∧ w' = w := by
 go_enter Tryz.func90, Tryz.ntmps90
 go_upto_region 1 with fail
 go_loopw [8] (fun iv wr => iv = .int .i64 1 ∧ w = wr) (fun iv _ => 1)
 case atStart => exact ⟨rfl, rfl⟩
 case round =>
  obtain ⟨rfl, rfl⟩ := hrel
  go_wp2
  go_end0
  exact ⟨rfl, rfl⟩
theorem hpdq0 (p : Option Addr) (c : Nat) (lim : Int) (fv : Value) (w : World) : Calls Tryz.prog 76 #[.slice p 0 c, .int .i64 0, .int .i64 0, .int .i64 lim, fv] w fun e w' => e = .returned (.tuple #[]) ∧ w' = w := by
 have CI := hid (hins0 p c fv w)
 go_enter Tryz.func76, Tryz.ntmps76
 go_upto_region 2 with fail
 go_loopw [1, 2] (fun av bv wr => av = .int .i64 0 ∧ bv = .int .i64 0 ∧ w = wr) (fun _ _ _ => 1)
 case atStart => exact ⟨rfl, rfl, rfl⟩
 case round =>
  obtain ⟨rfl, rfl, rfl⟩ := hrel
  go_wp2_with (go_at_call 90; with_reducible refine (CI.out).mono ?_; rintro e v1 ⟨rfl, hv⟩; subst hv)
  try simp only [Exit.inBlock, Exit.then]
  refine bodyPost_ret (results_none rfl _ _ _) rfl ?_
  exact ⟨rfl, rfl⟩
theorem hsort0 (p : Option Addr) (c : Nat) (fv : Value) (w : World) : Calls Tryz.prog 51 #[.slice p 0 c, fv] w fun e w' => e = .returned (.tuple #[]) ∧ w' = w := by
 have hL := hid (Tryz.bits_Len 0 w (by omega) (by omega))
 obtain ⟨k, hk⟩ : ∃ k, Lib.bitLen (0 : Int).toNat = k := ⟨_, rfl⟩
 rw [hk] at hL
 have CP := hid (hpdq0 p c k fv w)
 clear hk
 go_enter Tryz.func51, Tryz.ntmps51
 go_wp2_with (first | (go_at_call 77; with_reducible refine (hL.out).mono ?_; rintro e w9 ⟨rfl, h9⟩; subst w9) | (go_at_call 76; with_reducible refine (CP.out).mono ?_; rintro e v1 ⟨rfl, hv⟩; subst hv))
 go_end0
 exact ⟨rfl, rfl⟩
theorem hsortK_kp {w : World} {blk : Nat} (hb : blk < w.heap.size) (off m : Nat) (d : Array (Int × Int)) (os : Array Obj) : Kp (fun b => b = blk) w (sortWorldK hce 2 w blk off m d os) := by
 refine ⟨rfl, rfl, rfl, ?_, ?_⟩
 ·simp [sortWorldK, grow, putRowK, Sort.ahead]
 ·intro b hl hn
  have hs : (putRowK hce 2 (Sort.ahead w m) blk off d).heap.size = w.heap.size := by simp [putRowK, Sort.ahead]
  simp only [sortWorldK, grow]
  rw [Array.getElem?_append_left (by rw [hs]; exact hl)]
  simp only [putRowK, putRow, mapBlock, Array.getElem?_modify, Sort.ahead]
  rw [if_neg (fun e => hn e.symm)]
theorem hcs_flat (l : List (Int × Int)) (j : Nat) (h : j < l.length * 2) : (hcz l)[j]? = some ((hce l[j / 2]!)[j % 2]!) := by
 have h1 := flat_at 2 hce (fun _ => rfl) l (j / 2) (j % 2) (by omega) (by omega)
 rw [show j / 2 * 2 + j % 2 = j by omega] at h1
 unfold hcz
 rw [h1, getElem!_pos l (j / 2) (by omega), getElem!_pos _ (j % 2) (by simp [hce]; omega)]
 exact List.getElem?_eq_getElem _
theorem own_holds {base : Nat} {w : World} {g c : Nat} {l : List (Int × Int)} (h : w.ownsRow base 79 2 (.slice (some ⟨g, 0, none⟩) l.length c) l.length (hcz l)) : HoldsK hce 2 w g 0 l.toArray := by
 intro j hj
 rw [size_flatK] at hj
 have hj' : j < l.length * 2 := by simpa using hj
 rw [get_flatK _ _ _ _ hj]
 refine ⟨?_, World.ownsRow.frozenAt h _⟩
 rw [Nat.zero_add, World.ownsRow.cellAt h j hj', hcs_flat l j hj']
 simp
/-- keys in a slice. -/
def Hz (w : World) (p : Option Addr) (l : List (Int × Int)) : Prop := ∀ i (h : i < l.length), ∃ b off, p = some ⟨b, off, none⟩ ∧ b < w.heap.size ∧ w.cell? ⟨b, off + i * 2, none⟩ = some (.int .u32 l[i].1) ∧ w.cell? ⟨b, off + i * 2 + 1, none⟩ = some (.int .u32 l[i].2)
def lxo (x y : Int × Int) : Prop := ¬ (y.1 < x.1 ∨ (y.1 = x.1 ∧ y.2 < x.2))
theorem hsort_own {base : Nat} {w : World} {p : Option Addr} {c : Nat} {l : List (Int × Int)} (h : w.ownsRow base 79 2 (.slice p l.length c) l.length (hcz l)) (hn : l.length ≤ 1000000000000) :
  Calls Tryz.prog 51 #[.slice p l.length c, .func (.func 25) #[] #[]] w fun e w' => e = .returned (.tuple #[]) ∧ ∃ l', l'.Perm l ∧ l'.Pairwise lxo ∧ Hz w' p l' ∧ Kp (fun b => base ≤ b) w w' := by
 by_cases h0 : l.length = 0
 ·have e : l = [] := List.length_eq_zero_iff.1 h0
  subst e
  refine (hsort0 p c _ w).mono ?_
  rintro e w' ⟨rfl, rfl⟩
  exact ⟨rfl, [], List.Perm.refl _, List.Pairwise.nil, fun i hi => by simp at hi, Kp.refl _ _⟩
 ·obtain ⟨g, rfl, hb, hgl⟩ := own_some h (by omega)
  have hH0 := own_holds h
  have hS := hsort_any g 0 c l.toArray w hH0 hgl (by simp; omega)
  simp only [List.size_toArray] at hS
  refine hS.mono ?_
  rintro e w8 ⟨rfl, d', m8, os8, hP, hSo, hw8⟩
  have hsz : d'.size = l.length := by have := hP.1; simpa using this
  have hk8 : Kp (fun b => b = g) w w8 := by rw [hw8]; exact hsortK_kp hgl 0 m8 d' os8
  have hH8 : HoldsK hce 2 w8 g 0 d' := by
   rw [hw8]
   exact holdsK_grow _ _ _ _ _ _ _ (by simp [putRowK, Sort.ahead]; exact hgl) (holdsK_putRowK _ _ _ _ _ _ _ (holdsK_ahead _ _ _ _ _ _ _ hH0) (by simpa using hsz))
  refine ⟨rfl, d'.toList, ?_, ?_, ?_, ⟨hk8.os, hk8.tape, hk8.output, hk8.size, fun b hb2 hne => hk8.obj b hb2 (fun e => hne (by rw [e]; exact hb))⟩⟩
  ·have h7 := hP.2.2
   have h8 : (d'.extract 0 l.toArray.size).toList = d'.toList := by
    rw [show l.toArray.size = d'.size by simp [hsz]]; simp
   have h9 : (l.toArray.extract 0 l.toArray.size).toList = l := by simp
   simp only [List.size_toArray] at h7 h8 h9
   rw [h8, h9] at h7
   exact h7
  ·rw [List.pairwise_iff_getElem]
   intro a b ha hb hab
   have h9 := hSo a b (Nat.zero_le _) hab (by simp at hb; omega)
   rw [ltH] at h9
   simp at ha hb
   unfold lxo
   simpa [getElem!_pos, ha, hb] using h9
  ·intro a ha
   have ha' : a < d'.size := by simpa using ha
   have q0 := (hH8.cell ha' (c := 0) (by omega)).1
   have q1 := (hH8.cell ha' (c := 1) (by omega)).1
   simp only [Nat.zero_add, Nat.add_zero, getElem!_pos, ha'] at q0 q1
   simp only [Array.getElem_toList]
   refine ⟨g, 0, rfl, Nat.lt_of_lt_of_le hgl hk8.size, ?_, ?_⟩
   ·rw [Nat.zero_add]; exact q0
   ·rw [Nat.zero_add]; exact q1
theorem KsN.perm {f : Ks2} {l l' : List (Int × Int)} (h : KsN f l) (hp : l'.Perm l) : KsN f l' :=
 ⟨hp.nodup_iff.2 h.nd, fun x hx => h.u x (hp.mem_iff.1 hx), fun m hm => (hp.mem_iff).trans (h.iff m hm)⟩
attribute [local go_sem ↓] Go.wp_at_zero Go.wp_at_succ
theorem hsorted_any (lb : Array Value) (f : Ks2) (N : Nat) (hN : N ≤ 1000000000000) (w : World) (hseq : SeqGives Fence.wide 1 Tryz.prog 52 lb ivH (fun ss => KsN f ss ∧ ss.length ≤ N) N w) :
  Calls Tryz.prog 23 #[.func (.func 52) #[] lb, .func (.func 25) #[] #[]] w fun e w' => ∃ (l : List (Int × Int)) (q : Option Addr) (d n : Nat), l.length = n ∧ e = .returned (.slice q n d) ∧ KsN f l ∧ l.Pairwise lxo ∧ n ≤ N ∧ Hz w' q l ∧ Below w.heap.size w w' := by
 have C := hid (hcollect_any lb _ N hN w hseq)
 clear hseq
 go_enter Tryz.func23, Tryz.ntmps23
 go_upto_region 2 with (go_at_call 50; with_reducible refine C.out.mono ?_; rintro e w1 ⟨v, ss, rfl, ⟨h1, h4⟩, h2, h3⟩; obtain ⟨q, d, rfl⟩ := own_form h2; have H1 := hid h1; have H2 := hid h2; have H3 := hid h3; have H4 := hid h4; clear h1 h2 h3 h4)
 have CS := hid (hsort_own H2.out (by have := H4.out; omega))
 obtain ⟨n, hn⟩ : ∃ n, ss.length = n := ⟨_, rfl⟩
 have HN := hid hn
 rw [hn] at CS ⊢
 clear hn C
 go_wp2_with (go_at_call 51; with_reducible refine CS.out.mono ?_; rintro e w4 ⟨rfl, l', hp, hs, hu, hkk⟩; have HP := hid hp; have HS := hid hs; have HU := hid hu; have HKK := hid hkk; clear hp hs hu hkk)
 go_ret
 exact ⟨l', q, d, n, by rw [HP.out.length_eq, HN.out], rfl, H1.out.perm HP.out, HS.out, by rw [← HN.out]; exact H4.out, HU.out, H3.out.trans (HKK.out.below H3.out.size (fun j hj e => by omega))⟩
/-- what slices.SortedFunc of maps.Keys says of a map of nets. -/
theorem hkeysOf_any {w : World} {b k : Nat} {f : Ks2} (h : Mp kvN w b k f) (hk : k ≤ 1000000000000) :
  ∃ W, Calls Tryz.prog 24 #[.map (some b)] w (fun e w' => e = .returned (.func (.func 52) #[] #[.pointer (some ⟨w.heap.size, 0, none⟩)]) ∧ w' = W) ∧ Below w.heap.size w W ∧
   Calls Tryz.prog 23 #[.func (.func 52) #[] #[.pointer (some ⟨w.heap.size, 0, none⟩)], .func (.func 25) #[] #[]] W fun e w' => ∃ (l : List (Int × Int)) (q : Option Addr) (d n : Nat), l.length = n ∧ e = .returned (.slice q n d) ∧ KsN f l ∧ l.Pairwise lxo ∧ n ≤ k ∧ Hz w' q l ∧ Below W.heap.size W w' := by
 obtain ⟨W, hW⟩ : ∃ W, w.alloc (.cells #[.map (some b)] 74) = W := ⟨_, rfl⟩
 have HB : Below w.heap.size w W := by rw [← hW]; exact ball _ _
 have hcell : W.cell? ⟨w.heap.size, 0, none⟩ = some (.map (some b)) := by
  have : W.heap[w.heap.size]? = some (.cells #[.map (some b)] 74 (0, 0)) := by rw [← hW]; exact World.alloc_heap_new _ _
  exact row_cell this 0
 obtain ⟨N, hN, hseq⟩ := kn_gives Fence.wide 1 trivial rfl (Nat.le_refl _) w.heap.size b k f W (by rw [← hW]; simp) hcell (h.on HB)
 refine ⟨W, by rw [← hW]; exact hkeys_any _ w, HB, (hsorted_any _ f N (by omega) W hseq).mono ?_⟩
 rintro e w' ⟨l, q, d, n, h1, h2, h3, h4, h5, h6⟩
 exact ⟨l, q, d, n, h1, h2, h3, h4, by omega, h6⟩
/-- the nets of what f says. -/
def netsOf (f : Ks2) (l : List (Int × Int)) : List Nt := l.map (fun x => ⟨x.1, x.2, ((f x).getD n0).b, ((f x).getD n0).s, ((f x).getD n0).a⟩)
theorem relnOf {f : Ks2} {l : List (Int × Int)} (h : KsN f l) (hs : l.Pairwise lxo) (ha : ∀ x v, f x = some v → v.ok) : RelN f (netsOf f l) := by
 refine ⟨?_, fun x hx => ?_, fun m i v hm hi => ?_⟩
 ·unfold netsOf
  rw [List.map_map]
  rw [List.pairwise_map]
  have h1 := h.nd
  refine List.Pairwise.imp_of_mem (fun {a b} ha hb hab => ?_) (hs.and h1)
  have ua := h.u a ha
  have ub := h.u b hb
  show ky a.1 a.2 < ky b.1 b.2
  rw [ky_lt ua.1 ua.2 ub.1 ub.2]
  obtain ⟨h2, h3⟩ := hab
  unfold lxo at h2
  have h4 : ¬ (a.1 = b.1 ∧ a.2 = b.2) := fun e => h3 (Prod.ext e.1 e.2)
  omega
 ·obtain ⟨k, hk, rfl⟩ := List.mem_map.1 hx
  have hu := h.u k hk
  have := (h.iff k hu).1 hk
  obtain ⟨v, hv⟩ := Option.isSome_iff_exists.1 this
  have hok := ha k v hv
  refine ⟨hu.1, hu.2, ?_⟩
  simp only [hv, Option.getD_some]
  exact ⟨hok.1, hok.2.1, hok.2.2⟩
 ·unfold netsOf
  rw [List.mem_map]
  constructor
  ·intro e
   exact ⟨(m, i), (h.iff (m, i) ⟨hm, hi⟩).2 (by rw [e]; rfl), by rw [e]; rfl⟩
  ·rintro ⟨k, hk, e⟩
   obtain ⟨k1, k2⟩ := k
   injection e with e1 e2 e3 e4 e5
   simp only at e1 e2
   subst e1 e2
   have := (h.iff _ ⟨hm, hi⟩).1 hk
   obtain ⟨u, hu⟩ := Option.isSome_iff_exists.1 this
   simp only [hu, Option.getD_some] at e3 e4 e5
   obtain ⟨ub, us, ua⟩ := u
   obtain ⟨vb, vs, va⟩ := v
   simp only at e3 e4 e5
   rw [hu, e3, e4, e5]
end Go.Proofs.YtlhbgaiiehljpaaGreat.Ac
