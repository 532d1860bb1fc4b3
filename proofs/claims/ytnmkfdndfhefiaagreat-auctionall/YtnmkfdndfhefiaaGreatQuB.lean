/-
  The document's Interests: a side in its priority.
-/
import Derived.Test.YtnmkfdndfhefiaaGreatQuA
namespace Go.Proofs.YtnmkfdndfhefiaaGreat
open Go.RowKit Go.Deep Go.Shelf
set_option linter.unusedVariables false
set_option linter.unusedSimpArgs false
set_option maxHeartbeats 8000000
set_option maxRecDepth 100000
theorem Li.put {w : World} {g c : Nat} {L : List It} (h : Li w (Option.some ⟨g, 0, none⟩) c L) {i : Nat} (hi : i < L.length) (x : It) : Li (w.setCells g (i * 6) (irow x).toList) (Option.some ⟨g, 0, none⟩) c (L.set i x) := by
  obtain ⟨_, ⟨e, e2⟩ | ⟨g', c', cur, e, hb, hr, hlc, hcm, hs, ht⟩⟩ := h
  · omega
  · obtain ⟨e1, _, rfl⟩ := Value.slice.inj e
    injection e1 with e1
    injection e1 with e1
    subst e1
    unfold Li
    rw [List.length_set]
    have hx5 : (irow x).toList.length = 6 := rfl
    refine own_ext hb (setCells_row _ _ _ _ hr) hlc hcm (by rw [spl_size]; exact hs) (by rw [its_len, List.length_set]) (fun j hj => ?_)
    have e1 : j / 6 * 6 + j % 6 = j := by omega
    have hq : j / 6 < L.length := by omega
    have e2 := its_get (l := L.set i x) (i := j / 6) (j := j % 6) (by rw [List.length_set]; exact hq) (by omega)
    rw [e1] at e2
    rw [e2]
    have e3 := its_get (l := L) (i := j / 6) (j := j % 6) hq (by omega)
    rw [e1] at e3
    have e4 : cur[j]? = (its L)[j]? := by
      have := congrArg (fun z => z[j]?) ht
      simpa only [List.getElem?_take, hj, if_true, Array.getElem?_toList] using this
    by_cases hji : j / 6 = i
    · have e5 : j = i * 6 + j % 6 := by omega
      have := spl_in (irow x).toList cur (i * 6) (j % 6) (by omega) (by rw [hs]; omega)
      rw [← e5] at this
      rw [this]
      subst hji
      simp
    · rw [spl_out _ _ _ _ (by rw [hx5]; omega), e4, e3]
      simp [List.getElem_set, show ¬ i = j / 6 from fun e => hji e.symm]
/-- an interest is put behind those that were taken. -/
theorem wpList_take_it {w : World} {ops : Array Oper} {rest : List Oper} {oo : Oper} {a : Act} {Q : Exit → Act → World → Prop} (hgd : oo.guard = none) (s x : Operand)
    (ho : oo.op = .call { callee := .builtin .append, args := #[s, x], argTypes := #[27, 27] }) (pt : Option Addr) (nt ct : Nat) (L : List It) (hnt : L.length = nt) (hs : a.eval s = .slice pt nt ct) (hL : Li w pt ct L) (z : It)
    (hx : a.eval x = .slice (some ⟨w.heap.size, 0, none⟩) 1 1) (hn : nt ≤ 4096)
    (h : ∀ pt' ct' w', Hid (Li w' pt' ct' (L ++ [z])) → Hid (∀ g, OfP pt' g → OfP pt g ∨ w.heap.size ≤ g) → Hid (Kp (OfP pt) w w') → wpList Tryz.prog ops Q rest (a.put oo.dst (.slice pt' (nt + 1) ct')) w') : wpList Tryz.prog ops Q (oo :: rest) a (w.alloc (.cells #[.int .u64 z.id, .int .u32 z.mb, .int .i64 z.sd, .int .i64 z.ty, .int .i64 z.pr, .int .u64 z.qt] 35)) := by
  obtain ⟨i0, hi0, hz0, hz1, hz2⟩ := info_parts infoIt
  have hL' := hL.on (ball w (.cells #[.int .u64 z.id, .int .u32 z.mb, .int .i64 z.sd, .int .i64 z.ty, .int .i64 z.pr, .int .u64 z.qt] 35))
  unfold Li at hL hL'
  rw [hnt] at hL hL'
  refine wpList_append_lies _ hgd s x 27 ho 0 35 i0 _ 6 48 Tryz.underlying27 hi0 hz0 hz1 hz2 rfl (by decide) (.slice pt nt ct) nt (its L) hs hL' ⟨w.heap.size, 0, none⟩ 1 1 (irow z).toList hx rfl (fun j u hj => get_row (World.alloc_heap_new w (.cells #[.int .u64 z.id, .int .u32 z.mb, .int .i64 z.sd, .int .i64 z.ty, .int .i64 z.pr, .int .u64 z.qt] 35)) hj) (irow_one z) (by omega) (by unfold maxLen; omega) (by omega) (Nat.zero_le _) (w.heap.size + 1) (by simp) ?_
  intro g cap w' hown hgr hwh hlt
  refine h (some ⟨g, 0, none⟩) cap w' (hid ?_) (hid ?_) (hid ?_)
  · unfold Li
    rw [List.length_append, hnt, its_app]
    exact hown
  · intro b hb
    rw [hb.eq]
    rcases hwh with hwh | hwh
    · exact .inl (own_ofq hL hwh)
    · exact .inr (by omega)
  · exact ⟨hgr.os, hgr.tape, hgr.output, Nat.le_trans (by simp) hgr.size, fun b hb hB => (hgr.block b (by simp; omega) (fun e => hB (own_ofq hL e.symm))).trans ((ball w _).block b hb)⟩
theorem ins_q {k j : Nat} {x : It} {l : List It} (hk : k ≤ l.length) : (ins k x l)[j]? = if j < k then l[j]? else if j = k then some x else l[j - 1]? := by
  unfold ins
  rw [List.getElem?_append, List.length_take, Nat.min_eq_left hk]
  by_cases h1 : j < k
  · rw [if_pos h1, if_pos h1, List.getElem?_take, if_pos h1]
  · rw [if_neg h1, if_neg h1]
    by_cases h2 : j = k
    · subst h2
      rw [if_pos rfl, Nat.sub_self, List.getElem?_cons_zero]
    · rw [if_neg h2, show j - k = (j - k - 1) + 1 by omega, List.getElem?_cons_succ, List.getElem?_drop, show k + (j - k - 1) = j - 1 by omega]
theorem ins_at {k : Nat} {x : It} {l : List It} (hk : k ≤ l.length) (h : k < (ins k x l).length) : (ins k x l)[k] = x := by
  have := ins_q (j := k) (x := x) hk
  rw [List.getElem?_eq_getElem h, if_neg (by omega), if_pos rfl] at this
  injection this
theorem ins_lo {k j : Nat} {x : It} {l : List It} (hk : k ≤ l.length) (hj : j < k) (h : j < (ins k x l).length) : (ins k x l)[j] = l[j] := by
  have := ins_q (j := j) (x := x) hk
  rw [List.getElem?_eq_getElem h, if_pos hj, List.getElem?_eq_getElem (by omega)] at this
  injection this
theorem ins_swap {k : Nat} {x : It} {l : List It} (hk : k + 1 ≤ l.length) : ((ins (k + 1) x l).set (k + 1) l[k]).set k x = ins k x l := by
  apply List.ext_getElem?
  intro j
  rw [List.getElem?_set, List.getElem?_set, List.length_set, ins_len hk, ins_q hk, ins_q (k := k) (by omega)]
  by_cases e1 : k = j
  · subst e1
    rw [if_pos rfl, if_pos (by omega), if_neg (by omega), if_pos rfl]
  · rw [if_neg e1]
    by_cases e2 : k + 1 = j
    · subst e2
      rw [if_pos rfl, if_pos (by omega), if_neg (by omega), if_neg (by omega), show k + 1 - 1 = k by omega, List.getElem?_eq_getElem (by omega)]
    · rw [if_neg e2]
      by_cases e3 : j < k
      · rw [if_pos (by omega), if_pos e3]
      · rw [if_neg (by omega), if_neg (by omega), if_neg (by omega), if_neg (by omega)]
theorem ins_end {x : It} {l : List It} : ins l.length x l = l ++ [x] := by unfold ins; simp
theorem bh_of {x : It} {l : List It} {k : Nat} {s : Int} (h : So s l) (hx : Ik s x) (hk : k ≤ l.length) (h1 : ∀ j (hj : j < l.length), k ≤ j → ahd x l[j] = true) (h2 : ∀ (h0 : 0 < k), ahd x (l[k - 1]'(by omega)) = false) : bh x l = k := by
  unfold bh
  refine tw_eq hk (fun j hj hjk => ?_) (fun hj => by rw [h1 k hj (Nat.le_refl _)]; rfl)
  have h3 := h2 (by omega)
  by_cases e : ahd x l[j] = true
  · exfalso
    rcases Nat.lt_or_ge j (k - 1) with hl | hl
    · have := ahd_up hx (h.ok _ (List.getElem_mem hj)) (h.ok _ (List.getElem_mem (show k - 1 < l.length by omega))) e (List.pairwise_iff_getElem.1 h.so j (k - 1) hj (by omega) hl)
      rw [h3] at this
      cases this
    · obtain rfl : j = k - 1 := by omega
      rw [h3] at e
      cases e
  · simpa using e
/-- what stands between two swaps. -/
structure Sw (w0 wr : World) (g c : Nat) (l : List It) (x : It) (k : Nat) : Prop where
  li : Li wr (some ⟨g, 0, none⟩) c (ins k x l)
  up : ∀ j (hj : j < l.length), k ≤ j → ahd x l[j] = true
  ge : w0.heap.size ≤ g
  be : Below w0.heap.size w0 wr
theorem chain6 (w : World) (g o : Nat) (x : It) : w.setCells g o (irow x).toList = (((((w.setCell ⟨g, o, none⟩ (.int .u64 x.id)).setCell ⟨g, o + 1, none⟩ (.int .u32 x.mb)).setCell ⟨g, o + 2, none⟩ (.int .i64 x.sd)).setCell ⟨g, o + 3, none⟩ (.int .i64 x.ty)).setCell ⟨g, o + 4, none⟩ (.int .i64 x.pr)).setCell ⟨g, o + 5, none⟩ (.int .u64 x.qt) := rfl
theorem Sw.swap {w0 wr : World} {g c : Nat} {l : List It} {x : It} {k : Nat} (h : Sw w0 wr g c l x (k + 1)) (hk : k + 1 ≤ l.length) (ha : ahd x l[k] = true) : Sw w0 ((wr.setCells g ((k + 1) * 6) (irow l[k]).toList).setCells g (k * 6) (irow x).toList) g c l x k := by
  have h1 := h.li.put (i := k + 1) (by rw [ins_len hk]; omega) l[k]
  have h2 := h1.put (i := k) (by rw [List.length_set, ins_len hk]; omega) x
  rw [ins_swap hk] at h2
  have kp : Kp (fun j => j = g) wr ((wr.setCells g ((k + 1) * 6) (irow l[k]).toList).setCells g (k * 6) (irow x).toList) := (setCells_kp g _ _ _).trans (setCells_kp g _ _ _) (fun _ _ h => h)
  refine ⟨h2, fun j hj hkj => ?_, h.ge, h.be.trans (kp.below h.be.size (fun b hb e => by have := h.ge; omega))⟩
  rcases Nat.lt_or_ge k j with hl | hl
  · exact h.up j hj hl
  · obtain rfl : j = k := by omega
    exact ha
theorem iso_take {s : Int} {L : List It} {i : Nat} (hi : i < L.length) : iso s (L.take (i + 1)) = if L[i].sd = s then ent L[i] (iso s (L.take i)) else iso s (L.take i) := by
  rw [List.take_succ_eq_append_getElem hi, iso_snoc]
theorem iso_len_le (s : Int) (L : List It) : (iso s L).length ≤ L.length := by
  rw [(iso_perm s L).length_eq]
  exact List.length_filter_le _ _
end Go.Proofs.YtnmkfdndfhefiaaGreat
