/-
  Interests that came in are entered.
-/
import Derived.Test.YtknikhoobhgidaaLvA
namespace Go.Proofs.Ytknikhoobhgidaa
open Go.RowKit Go.Deep Go.Shelf
set_option linter.unusedVariables false
set_option linter.unusedSimpArgs false
set_option maxHeartbeats 4000000
set_option maxRecDepth 100000
/-- interests that came in. -/
def Iz (w : World) (q : Option Addr) (l : List It) : Prop := ∀ i (h : i < l.length), ∃ b off, q = some ⟨b, off, none⟩ ∧ b < w.heap.size ∧ ∀ j, j < 6 → w.cell? ⟨b, off + i * 6 + j, none⟩ = (irow l[i]).toList[j]?
theorem Iz.on {w w' : World} {q : Option Addr} {l : List It} (h : Iz w q l) (hb : Below w.heap.size w w') : Iz w' q l := fun i hi => by
  obtain ⟨b, off, e, hlt, hc⟩ := h i hi
  exact ⟨b, off, e, Nat.lt_of_lt_of_le hlt hb.size, fun j hj => (hb.cell (p := ⟨b, off + i * 6 + j, none⟩) hlt).trans (hc j hj)⟩
theorem Iz.cells {w : World} {q : Option Addr} {l : List It} (h : Iz w q l) {i : Nat} (hi : i < l.length) : ∃ b off, q = some ⟨b, off, none⟩ ∧ w.cell? ⟨b, off + i * 6, none⟩ = some (.int .u64 l[i].id) ∧ w.cell? ⟨b, off + i * 6 + 1, none⟩ = some (.int .u32 l[i].mb) ∧ w.cell? ⟨b, off + i * 6 + 2, none⟩ = some (.int .i64 l[i].sd) ∧ w.cell? ⟨b, off + i * 6 + 3, none⟩ = some (.int .i64 l[i].ty) ∧ w.cell? ⟨b, off + i * 6 + 4, none⟩ = some (.int .i64 l[i].pr) ∧ w.cell? ⟨b, off + i * 6 + 5, none⟩ = some (.int .u64 l[i].qt) := by
  obtain ⟨b, off, e, _, hc⟩ := h i hi
  exact ⟨b, off, e, hc 0 (by omega), hc 1 (by omega), hc 2 (by omega), hc 3 (by omega), hc 4 (by omega), hc 5 (by omega)⟩
/-- what an interest does to the sides and to those that were taken. -/
def stp (m : Int) (t : List It × List It × List It) (x : It) : List It × List It × List It := (eb m t.1 t.2.1 x, es m t.1 t.2.1 x, if rfi m t.1 t.2.1 x = 0 then t.2.2 ++ [x] else t.2.2)
/-- what interests come to. -/
def etd (m : Int) (l : List It) : List It × List It × List It := l.foldl (stp m) ([], [], [])
theorem etd_step {m : Int} {l : List It} {i : Nat} (hi : i < l.length) : etd m (l.take (i + 1)) = stp m (etd m (l.take i)) l[i] := by
  unfold etd
  rw [List.take_succ_eq_append_getElem hi, List.foldl_append]
  rfl
theorem stp_perm {m : Int} {t : List It × List It × List It} {x : It} (h : t.2.2.Perm (t.1 ++ t.2.1)) : (stp m t x).2.2.Perm ((stp m t x).1 ++ (stp m t x).2.1) := by
  unfold stp eb es
  by_cases hr : rfi m t.1 t.2.1 x = 0
  · obtain ⟨hck, _⟩ := rfi_ok hr
    have e1 : (t.2.2 ++ [x]).Perm (x :: (t.1 ++ t.2.1)) := (List.perm_append_comm (l₁ := t.2.2) (l₂ := [x])).trans (h.cons x)
    rcases (ck_ok hck).2 with hs | hs
    · simp only [hr, hs, if_true, true_and, and_self, show ¬ ((1 : Int) = 2) by decide, if_false]
      refine e1.trans ?_
      exact (List.Perm.append_right t.2.1 (ins_perm (bh x t.1) x t.1)).symm
    · simp only [hr, hs, if_true, true_and, and_self, show ¬ ((2 : Int) = 1) by decide, if_false]
      refine e1.trans ?_
      refine (List.perm_middle (a := x) (l₁ := t.1) (l₂ := t.2.1)).symm.trans ?_
      exact List.Perm.append_left t.1 (ins_perm (bh x t.2.1) x t.2.1).symm
  · simp only [hr, false_and, if_false]
    exact h
theorem etd_perm (m : Int) (l : List It) : (etd m l).2.2.Perm ((etd m l).1 ++ (etd m l).2.1) := by
  unfold etd
  have go : ∀ (l : List It) (t : List It × List It × List It), t.2.2.Perm (t.1 ++ t.2.1) → (l.foldl (stp m) t).2.2.Perm ((l.foldl (stp m) t).1 ++ (l.foldl (stp m) t).2.1) := by
    intro l
    induction l with
    | nil => intro t h; exact h
    | cons x l ih => intro t h; exact ih _ (stp_perm h)
  exact go l _ (List.Perm.refl _)
theorem etd_len (m : Int) (l : List It) : (etd m l).2.2.length = (etd m l).1.length + (etd m l).2.1.length := by rw [(etd_perm m l).length_eq, List.length_append]
/-- an interest is put behind those that were taken. -/
theorem wpList_take_it {w : World} {ops : Array Oper} {rest : List Oper} {oo : Oper} {a : Act} {Q : Exit → Act → World → Prop} (hgd : oo.guard = none) (s x : Operand)
    (ho : oo.op = .call { callee := .builtin .append, args := #[s, x], argTypes := #[22, 22] }) (pt : Option Addr) (nt ct : Nat) (L : List It) (hnt : L.length = nt) (hs : a.eval s = .slice pt nt ct) (hL : Li w pt ct L) (z : It)
    (hx : a.eval x = .slice (some ⟨w.heap.size, 0, none⟩) 1 1) (hn : nt ≤ 4096)
    (h : ∀ pt' ct' w', Hid (Li w' pt' ct' (L ++ [z])) → Hid (∀ g, OfP pt' g → OfP pt g ∨ w.heap.size ≤ g) → Hid (Kp (OfP pt) w w') → wpList Try.prog ops Q rest (a.put oo.dst (.slice pt' (nt + 1) ct')) w') : wpList Try.prog ops Q (oo :: rest) a (w.alloc (.cells #[.int .u64 z.id, .int .u32 z.mb, .int .i64 z.sd, .int .i64 z.ty, .int .i64 z.pr, .int .u64 z.qt] 36)) := by
  obtain ⟨i0, hi0, hz0, hz1, hz2⟩ := info_parts infoIt
  have hL' := hL.on (ball w (.cells #[.int .u64 z.id, .int .u32 z.mb, .int .i64 z.sd, .int .i64 z.ty, .int .i64 z.pr, .int .u64 z.qt] 36))
  unfold Li at hL hL'
  rw [hnt] at hL hL'
  refine wpList_append_lies _ hgd s x 22 ho 0 36 i0 _ 6 48 Try.underlying22 hi0 hz0 hz1 hz2 rfl (by decide) (.slice pt nt ct) nt (its L) hs hL' ⟨w.heap.size, 0, none⟩ 1 1 (irow z).toList hx rfl (fun j u hj => get_row (World.alloc_heap_new w (.cells #[.int .u64 z.id, .int .u32 z.mb, .int .i64 z.sd, .int .i64 z.ty, .int .i64 z.pr, .int .u64 z.qt] 36)) hj) (irow_one z) (by omega) (by unfold maxLen; omega) (by omega) (Nat.zero_le _) (w.heap.size + 1) (by simp) ?_
  intro g cap w' hown hgr hwh hlt
  refine h (some ⟨g, 0, none⟩) cap w' (hid ?_) (hid ?_) (hid ?_)
  · unfold Li
    rw [List.length_append, hnt, its_app]
    exact hown
  · intro b hb
    rw [hb.eq]
    rcases hwh with hwh | hwh
    · exact .inl (own_ofq hL hwh)
    · exact .inr (by omega)
  · exact ⟨hgr.os, hgr.tape, hgr.output, Nat.le_trans (by simp) hgr.size, fun b hb hB => (hgr.block b (by simp; omega) (fun e => hB (own_ofq hL e.symm))).trans ((ball w _).block b hb)⟩
/-- a call is kept where a slice of another one grows. -/
theorem Cl.kept' {w w' : World} {B : Nat} {r m : Int} {p1 : Option Addr} {c1 : Nat} {b : List It} {p2 : Option Addr} {c2 : Nat} {s : List It} {pt : Option Addr} (h : Cl w B r m p1 c1 b p2 c2 s) (hk : Kp (OfP pt) w w') (ht : ∀ g, OfP pt g → ∃ cur, w.heap[g]? = some (.cells cur 36 (0, 0))) (hn : ∀ g, OfP pt g → ¬ (OfP p1 g ∨ OfP p2 g)) : Cl w' B r m p1 c1 b p2 c2 s :=
  ⟨hk.row h.row (fun e => by obtain ⟨cu, hcu⟩ := ht _ e; exact row_ne hcu h.row (by decide) rfl), h.l1.kept hk (fun g hg e => hn g e (.inl hg)), h.l2.kept hk (fun g hg e => hn g e (.inr hg)), h.s1, h.s2, h.ap, h.r0, h.r1, h.m0, h.m1, h.mb⟩
/-- so many came in. -/
structure En (w U : World) (B : Nat) (r : Int) (t : List It × List It × List It) (pt : Option Addr) (ct : Nat) : Prop where
  cl : ∃ p1 c1 p2 c2, Cl U B r 4096 p1 c1 t.1 p2 c2 t.2.1 ∧ (∀ g, OfP p1 g ∨ OfP p2 g → w.heap.size ≤ g) ∧ ∀ g, OfP pt g → ¬ (OfP p1 g ∨ OfP p2 g)
  li : Li U pt ct t.2.2
  gt : ∀ g, OfP pt g → w.heap.size ≤ g
  be : Below w.heap.size w U
  gb : w.heap.size ≤ B
theorem entered_bad (r : Int) (q : Option Addr) (n cap : Nat) (w : World) (hr : isP r = false) :
    Calls Try.prog 10 #[.int .i64 r, .slice q n cap] w fun e w' => e = .returned (.tuple #[.pointer none, .slice none 0 0]) ∧ w' = w := by
  have C := hid (new_bad r 4096 w (by simp [nwk, hr]))
  go_enter Try.func10, Try.ntmps10
  go_wp2_with (go_at_call 18; with_reducible refine (C.out).mono ?_; rintro e w1 ⟨rfl, rfl⟩)
  go_ret2
  exact ⟨rfl, rfl⟩
theorem entered_ok (r : Int) (q : Option Addr) (cap : Nat) (l : List It) (w : World) (h : Iz w q l) (hm : l.length ≤ maxLen) (hr : isP r = true) :
    Calls Try.prog 10 #[.int .i64 r, .slice q l.length cap] w fun e w' => ∃ B pt ct, e = .returned (.tuple #[.pointer (some ⟨B, 0, none⟩), .slice pt (etd 4096 l).2.2.length ct]) ∧ En w w' B r (etd 4096 l) pt ct := by
  have hk : nwk r 4096 = true := by simp [nwk, hr]
  have HC := hid (Cl.new w hk)
  have C1 := hid ((new_ok r 4096 w hk).mono (R' := fun e w' => e = .returned (.tuple #[.pointer (some ⟨w.heap.size, 0, none⟩), .int .i64 0]) ∧ Hid (w' = w.alloc (.cells #[.int .i64 r, .int .i64 4096, .slice none 0 0, .slice none 0 0] 68))) (fun e w' h => ⟨h.1, hid h.2⟩))
  obtain ⟨B, hB⟩ : ∃ B, w.heap.size = B := ⟨_, rfl⟩
  rw [hB] at C1 HC
  have HB := hid hB
  have pq := ptr_nil B
  obtain ⟨n, hn⟩ : ∃ n, l.length = n := ⟨_, rfl⟩
  have HN := hid hn
  have H := hid h
  rw [hn] at hm ⊢
  unfold maxLen at hm
  clear hB hk hr hn h
  go_enter Try.func10, Try.ntmps10
  go_upto_region 4 with (go_at_call 18; with_reducible refine (C1.out).mono ?_; rintro e w1 ⟨rfl, HW1⟩)
  have HE0 := hid (show En w w1 B r ([], [], []) none 0 from by
    have hc := HC.out
    rw [← HW1.out] at hc
    exact ⟨⟨none, 0, none, 0, hc, (fun g h => h.elim (fun h => by cases h) (fun h => by cases h)), fun g h => by cases h⟩, Li.nil _, (fun g h => by cases h), (by rw [HW1.out]; exact ball _ _), Nat.le_of_eq HB.out⟩)
  clear HC C1 HW1
  go_upto_region 6 with fail
  go_loopw [8, 9] (fun sv iv wr => ∃ i pt nt ct, i ≤ n ∧ nt ≤ 4096 ∧ iv = .int .i64 (i : Nat) ∧ sv = .slice pt nt ct ∧ Hid ((etd 4096 (l.take i)).2.2.length = nt) ∧ Hid (En w wr B r (etd 4096 (l.take i)) pt ct)) (fun _ iv _ => n - (intOf iv).toNat)
  case atStart => exact ⟨0, none, 0, 0, by omega, by omega, rfl, rfl, hid rfl, HE0⟩
  case round =>
    obtain ⟨i, pt, nt, ct, hin, hnt, rfl, rfl, HNT, HE⟩ := hrel
    clear HE0
    by_cases hlt : i < n
    · have hi : i < l.length := by rw [HN.out]; exact hlt
      obtain ⟨b, off, eq, a0, a1, a2, a3, a4, a5⟩ := (H.out.on HE.out.be).cells hi
      have HIZ := hid (fun (U : World) (hU : Below w.heap.size w U) => (H.out.on hU).cells hi)
      subst eq
      have hstep := etd_step (m := 4096) hi
      obtain ⟨t, ht⟩ : ∃ t, etd 4096 (l.take i) = t := ⟨_, rfl⟩
      rw [ht] at HE HNT hstep
      obtain ⟨p1, c1, p2, c2, hc, hgp, hal⟩ := HE.out.cl
      have CE := hid (enter_any B r 4096 p1 c1 t.1 p2 c2 t.2.1 l[i] wr hc)
      obtain ⟨z, hz⟩ : ∃ z, l[i] = z := ⟨_, rfl⟩
      rw [hz] at a0 a1 a2 a3 a4 a5 CE hstep HIZ
      have HPP := hid (And.intro hc (And.intro hgp hal))
      obtain ⟨v, hv⟩ : ∃ v, rfi 4096 t.1 t.2.1 z = v := ⟨_, rfl⟩
      rw [hv] at CE
      have HV := hid hv
      have HST := hid hstep
      have i0 : (0 : Int) ≤ (i : Int) := by omega
      have i1 : (i : Int) < (n : Int) := by omega
      have HNX := hid (show ∀ w2 q1 d1 q2 d2, Cl w2 B r 4096 q1 d1 (eb 4096 t.1 t.2.1 z) q2 d2 (es 4096 t.1 t.2.1 z) → (∀ g, OfP q1 g ∨ OfP q2 g → (OfP p1 g ∨ OfP p2 g) ∨ wr.heap.size ≤ g) → Kp (fun j => j = B ∨ OfP p1 j ∨ OfP p2 j) wr w2 → Below w.heap.size w w2 ∧ Li w2 pt ct t.2.2 ∧ (∀ g, OfP q1 g ∨ OfP q2 g → w.heap.size ≤ g) ∧ (∀ g, OfP pt g → ¬ (OfP q1 g ∨ OfP q2 g)) ∧ ∀ g, OfP pt g → g < w2.heap.size from by
        intro w2 q1 d1 q2 d2 h1 h2 h3
        have hbe := HE.out.be
        have hsz := hbe.size
        have hty : ∀ g, OfP pt g → g < wr.heap.size := fun g hg => by obtain ⟨cu, hcu⟩ := HE.out.li.ty hg; exact row_lt hcu
        refine ⟨hbe.trans (h3.below hsz (fun g hg e => ?_)), HE.out.li.kept h3 (fun g hg e => ?_), fun g hg => ?_, fun g hg e => ?_, fun g hg => Nat.lt_of_lt_of_le (hty g hg) h3.size⟩
        · have := HE.out.gb
          rcases e with e | e
          · omega
          · have := hgp g e; omega
        · rcases e with e | e
          · obtain ⟨cu, hcu⟩ := HE.out.li.ty hg; exact row_ne hcu hc.row (by decide) e
          · exact hal g hg e
        · rcases h2 g hg with h | h
          · exact hgp g h
          · omega
        · rcases h2 g e with h | h
          · exact hal g hg h
          · have := hty g hg; omega)
      clear hz hv hstep ht hc hgp hal CE
      have CE := hid (enter_any B r 4096 p1 c1 t.1 p2 c2 t.2.1 z wr HPP.out.1)
      by_cases h0 : v = 0
      · rw [HV.out, h0] at CE
        have HTK := hid (show stp 4096 t z = (eb 4096 t.1 t.2.1 z, es 4096 t.1 t.2.1 z, t.2.2 ++ [z]) from by unfold stp; rw [HV.out, if_pos h0])
        clear h0
        go_upto_region 9 with (go_at_call 19; with_reducible refine (CE.out).mono ?_; rintro e w2 ⟨rfl, q1, d1, q2, d2, h1, h2, h3⟩; have H1 := hid h1; have H2 := hid (HNX.out w2 q1 d1 q2 d2 h1 h2 h3); clear h1 h2 h3)
        clear a0 a1 a2 a3 a4 a5
        obtain ⟨b', off', eq', a0, a1, a2, a3, a4, a5⟩ := HIZ.out w2 H2.out.1
        obtain ⟨rfl, rfl⟩ : b = b' ∧ off = off' := by injection eq' with eq'; injection eq' with e1 e2; exact ⟨e1, e2⟩
        clear eq'
        go_wp2_with (at_builtin; refine wpList_take_it (by rfl) (.tmp 34) (.tmp 39) (by rfl) pt nt ct t.2.2 HNT.out (by rfl) H2.out.2.1 z (by rfl) hnt ?_; intro pt' ct' w3 T1 T2 T3)
        go_roundw
        case rel =>
          obtain ⟨b1, b2, b3, b4, b5⟩ := H2.out
          have hcl := H1.out.kept' T3.out (fun g hg => b2.ty hg) b4
          have hln := etd_len 4096 (l.take (i + 1))
          have hmb := hcl.mb
          rw [HST.out, HTK.out] at hln
          simp only [List.length_append, List.length_singleton, HNT.out] at hln
          refine ⟨i + 1, pt', nt + 1, ct', by omega, by omega, by go_num, rfl, hid ?_, hid ⟨⟨q1, d1, q2, d2, ?_, b3, ?_⟩, ?_, ?_, ?_, HE.out.gb⟩⟩
          · rw [HST.out, HTK.out]
            simp only [List.length_append, List.length_singleton, HNT.out]
          · rw [HST.out, HTK.out]; exact hcl
          · intro g hg e
            rcases T2.out g hg with h | h
            · exact b4 g h e
            · have : g < w2.heap.size := by
                rcases e with e | e
                · obtain ⟨cu, hcu⟩ := H1.out.l1.ty e; exact row_lt hcu
                · obtain ⟨cu, hcu⟩ := H1.out.l2.ty e; exact row_lt hcu
              omega
          · rw [HST.out, HTK.out]; exact T1.out
          · intro g hg
            rcases T2.out g hg with h | h
            · exact HE.out.gt g h
            · have := b1.size; omega
          · exact b1.trans (T3.out.below b1.size (fun g hg e => by have := HE.out.gt g e; omega))
        case measure => simp [intOf]; omega
      · rw [HV.out] at CE
        have t1 : (v == 0) = false := by simpa using h0
        have HTK := hid (show stp 4096 t z = (eb 4096 t.1 t.2.1 z, es 4096 t.1 t.2.1 z, t.2.2) from by unfold stp; rw [HV.out, if_neg h0])
        clear h0
        go_wp2_with (go_at_call 19; with_reducible refine (CE.out).mono ?_; rintro e w2 ⟨rfl, q1, d1, q2, d2, h1, h2, h3⟩; have H1 := hid h1; have H2 := hid (HNX.out w2 q1 d1 q2 d2 h1 h2 h3); clear h1 h2 h3)
        go_roundw
        case rel =>
          obtain ⟨b1, b2, b3, b4, b5⟩ := H2.out
          refine ⟨i + 1, pt, nt, ct, by omega, by omega, by go_num, rfl, hid ?_, hid ⟨⟨q1, d1, q2, d2, ?_, b3, b4⟩, ?_, HE.out.gt, b1, HE.out.gb⟩⟩
          · rw [HST.out, HTK.out]; exact HNT.out
          · rw [HST.out, HTK.out]; exact H1.out
          · rw [HST.out, HTK.out]; exact b2
        case measure => simp [intOf]; omega
    · obtain rfl : i = n := by omega
      go_wp2
      go_ret2
      have e : l.take i = l := List.take_of_length_le (by rw [HN.out]; exact Nat.le_refl _)
      rw [e] at HE HNT
      exact ⟨B, pt, ct, by rw [HNT.out]; rfl, HE.out⟩
end Go.Proofs.Ytknikhoobhgidaa
