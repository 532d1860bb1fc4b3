/-
  LvE
-/
import Derived.Test.YtlhbgaiiehljpaaGreatGb
namespace Go.Proofs.YtlhbgaiiehljpaaGreat.Ac
open Go.RowKit Go.Deep Go.Maps MonM Go.Proofs.YtlhbgaiiehljpaaGreat
set_option linter.unusedVariables false
set_option linter.unusedSimpArgs false
set_option maxHeartbeats 8000000
set_option maxRecDepth 100000
attribute [local go_sem ↓] Go.wp_at_zero Go.wp_at_succ
def fs (l : List (Nat × Sv)) : Int := l.foldl (fun a x => (a + x.2.fd) % 18446744073709551616) 0
theorem fs_snoc (l : List (Nat × Sv)) (x : Nat × Sv) : fs (l ++ [x]) = (fs l + x.2.fd) % 18446744073709551616 := by simp [fs, List.foldl_append]
abbrev HoP := Int × Int → Option Pv
theorem funds_any {H : Nat} {o : Int} {p : Option Addr} {c : Nat} {l : List (Nat × Sv)} {M : Option Nat} {n : Nat} {f : HoP} (w : World) (h : Ho w H o p c l M n f) :
    Calls Tryz.prog 32 #[pb H] w fun e w' => e = .returned (.int .u64 (fs l)) ∧ Below w.heap.size w w' := by
  have HH := hid h
  have hsz := h.sz
  have hkc := (own_capc h.me.own).1
  have k1 := row_cell h.row 1
  simp only [List.getElem?_toArray, List.getElem?_cons_succ, List.getElem?_cons_zero] at k1
  obtain ⟨k, hk⟩ : ∃ k, l.length = k := ⟨_, rfl⟩
  have HK := hid hk
  rw [hk] at k1 hsz hkc
  clear h hk
  go_enter Tryz.func32, Tryz.ntmps32
  go_upto_region 3 with fail
  go_loopw [3, 11] (fun sv iv wr => ∃ i : Nat, i ≤ k ∧ iv = .int .i64 i ∧ sv = .int .u64 (fs (l.take i)) ∧ Hid (Below w.heap.size w wr)) (fun _ iv _ => k - (intOf iv).toNat)
  case atStart => exact ⟨0, Nat.zero_le _, rfl, rfl, Below.refl _ _⟩
  case round =>
    obtain ⟨i, hik, rfl, rfl, HB⟩ := hrel
    by_cases hlt : i < k
    · have hil : i < l.length := by rw [HK.out]; exact hlt
      obtain ⟨g, rfl, a0, a1⟩ := (HH.out.on HB.out).me.at hil
      have HS := hid (show fs (l.take (i + 1)) = (fs (l.take i) + l[i].2.fd) % 18446744073709551616 from by rw [List.take_succ_eq_append_getElem hil, fs_snoc])
      obtain ⟨y, hy⟩ : ∃ y, l[i] = y := ⟨_, rfl⟩
      rw [hy] at a0 a1 HS
      have a2 := row_cell a1 1
      simp only [List.getElem?_toArray, List.getElem?_cons_succ, List.getElem?_cons_zero] at a2
      have i0 : (0 : Int) ≤ (i : Int) := by omega
      have i1 : (i : Int) < (k : Int) := by omega
      obtain ⟨s, hs⟩ : ∃ s, fs (l.take i) = s := ⟨_, rfl⟩
      rw [hs] at HS ⊢
      have e1 : IntKind.u64.wrap (s + y.2.fd) = (s + y.2.fd) % 18446744073709551616 := IntKind.wrap_u64 _
      clear hy a1 hs
      go_wp2
      go_roundw
      case rel => exact ⟨i + 1, by omega, by go_num, by rw [HS.out, ← e1], HB.out⟩
      case measure => simp [intOf]; omega
    · obtain rfl : i = k := by omega
      have hin : decide (i < i) = false := by simp
      have HF := hid (show fs (l.take i) = fs l from by rw [← HK.out, List.take_length])
      rw [HF.out]
      go_wp2
      go_ret
      exact ⟨rfl, HB.out⟩
theorem own_capn {base : Nat} {w : World} {e : TypeId} {size n c : Nat} {p : Option Addr} {xs : List Value} (h : w.ownsRow base e size (.slice p n c) n xs) : n ≤ c ∧ c ≤ maxLen ∧ (p = none → n = 0 ∧ c = 0) := by
  obtain ⟨h1, ⟨e', e2⟩ | ⟨g, c', cur, e', r1, r2, r3, r4, r5, r6⟩⟩ := h
  · obtain ⟨_, h2, rfl⟩ := Value.slice.inj e'
    exact ⟨by omega, Nat.zero_le _, fun _ => ⟨by omega, rfl⟩⟩
  · obtain ⟨rfl, _, rfl⟩ := Value.slice.inj e'
    exact ⟨r3, r4, fun h => by cases h⟩
theorem info_parts {e : TypeId} {z : Value} {size bytes : Nat} (h : (Tryz.prog.info? e).map (fun i => (i.zero, i.size, i.bytes)) = some (some z, size, bytes)) : ∃ i0, Tryz.prog.info? e = some i0 ∧ i0.zero = some z ∧ i0.size = size ∧ i0.bytes = bytes := by
  cases hq : Tryz.prog.info? e with
  | none => rw [hq] at h; cases h
  | some i =>
    rw [hq] at h
    simp only [Option.map_some, Option.some.injEq, Prod.mk.injEq] at h
    exact ⟨i, rfl, h.1, h.2.1, h.2.2⟩
theorem infoS : (Tryz.prog.info? 104).map (fun i => (i.zero, i.size, i.bytes)) = some (some (.pointer none), 1, 8) := by kernel_rfl
theorem Kp.grown {F : Nat → Prop} {w W U : World} {r : Option Nat} (h : Kp F w W) (hg : W.grownBy U r) (hr : ∀ j, r = some j → F j) : Kp F w U :=
  ⟨hg.os.trans h.os, hg.tape.trans h.tape, hg.output.trans h.output, Nat.le_trans h.size hg.size, fun g hgl hF => (hg.block g (Nat.lt_of_lt_of_le hgl h.size) (fun e => hF (hr g e.symm))).trans (h.obj g hgl hF)⟩
theorem own_blk {base : Nat} {w : World} {e : TypeId} {size n c : Nat} {p : Option Addr} {xs : List Value} (h : w.ownsRow base e size (.slice p n c) n xs) {j : Nat} (hj : (Value.slice p n c).ownBlock = some j) : OfP p j := by
  obtain ⟨_, ⟨e, _⟩ | ⟨g', c', cur, e, _⟩⟩ := h
  · rw [e] at hj; cases hj
  · have e5 := (Value.slice.inj e).1
    rw [e] at hj; cases hj
    exact e5
theorem insert_end (p : Option Addr) (c V b : Nat) (xs : List Value) (n : Nat) (w : World) (h : w.ownsRow 0 104 1 (.slice p n c) n xs) (hV : w.heap[V]? = some (.cells #[pb b] 104 (0, 0))) (hn : n ≤ 1000000) :
    Calls Tryz.prog 33 #[.slice p n c, .int .i64 n, .slice (some ⟨V, 0, none⟩) 1 1] w fun e w' => ∃ g d, e = .returned (.slice (some ⟨g, 0, none⟩) (n + 1 : Nat) d) ∧ w'.ownsRow 0 104 1 (.slice (some ⟨g, 0, none⟩) (n + 1) d) (n + 1) (xs ++ [pb b]) ∧ Kp (fun j => OfP p j) w w' ∧ (OfP p g ∨ g = w.heap.size) := by
  have hc := own_capn h
  have hc1 := hc.1
  have HNN := hid hc.2.2
  have HO := hid h
  have RN := hid (show ∀ ad, some (⟨V, 0, none⟩ : Addr) = some ad → ∀ j u, ([pb b] : List Value)[j]? = some u → w.cell? (ad.add j) = some u from by
    intro ad e j u hj
    injection e with e
    subst e
    rw [Addr.add_lit, Nat.zero_add, row_cell hV]
    simpa using hj)
  have q1 : ((n : Int) == (n : Int)) = true := by simp
  clear h hc hV
  obtain ⟨i0, hi, hz0, hz1, hz2⟩ := info_parts infoS
  have HI := hid (And.intro hi (And.intro hz0 (And.intro hz1 hz2)))
  have FIN := hid (show ∀ (g cap : Nat) (w' : World), w.grownBy w' (Value.slice p n c).ownBlock → ((Value.slice p n c).ownBlock = some g ∨ g = w.heap.size) → Kp (fun j => OfP p j) w w' ∧ (OfP p g ∨ g = w.heap.size) from fun g cap w' h2 h3 =>
    ⟨(Kp.refl _ _).grown h2 (fun j hj => own_blk HO.out hj), h3.imp (fun h => own_blk HO.out h) id⟩)
  have H1 := hid (show ∀ u ∈ ([pb b] : List Value), u.oneCell' = true from fun u hu => by simp at hu; subst hu; rfl)
  clear hi hz0 hz1 hz2
  cases p with
  | none =>
    obtain ⟨rfl, rfl⟩ := HNN.out rfl
    go_enter Tryz.func33, Tryz.ntmps33
    go_wp2_with (at_builtin; refine wpList_append_lies w (by rfl) (.tmp 23) (.tmp 24) 97 (by rfl) 0 104 i0 _ 1 8 Tryz.underlying97 HI.out.1 HI.out.2.1 HI.out.2.2.1 HI.out.2.2.2 rfl (by decide) _ 0 xs (by rfl) HO.out ⟨V, 0, none⟩ 1 1 [pb b] (by rfl) (by rfl) (RN.out _ rfl) H1.out (by decide) (by decide) (by decide) (Nat.zero_le _) _ rfl ?_; intro g cap w' h1 h2 h3 h4; have O1 := hid h1; have F := hid (FIN.out g cap w' h2 h3); clear h1 h2 h3 h4)
    go_ret
    exact ⟨_, _, rfl, O1.out, F.out.1, F.out.2⟩
  | some ad =>
    obtain ⟨m, hm⟩ : ∃ m, (n : Int) = m := ⟨_, rfl⟩
    clear hm m
    go_enter Tryz.func33, Tryz.ntmps33
    go_wp2_with (at_builtin; refine wpList_append_lies w (by rfl) (.tmp 23) (.tmp 24) 97 (by rfl) 0 104 i0 _ 1 8 Tryz.underlying97 HI.out.1 HI.out.2.1 HI.out.2.2.1 HI.out.2.2.2 rfl (by decide) _ n xs (by rfl) HO.out ⟨V, 0, none⟩ 1 1 [pb b] (by rfl) (by rfl) (RN.out _ rfl) H1.out (by decide) (by unfold maxLen; omega) (by omega) (Nat.zero_le _) _ rfl ?_; intro g cap w' h1 h2 h3 h4; have O1 := hid h1; have F := hid (FIN.out g cap w' h2 h3); clear h1 h2 h3 h4)
    all_goals
      go_ret
      exact ⟨_, _, rfl, O1.out, F.out.1, F.out.2⟩
end Go.Proofs.YtlhbgaiiehljpaaGreat.Ac
namespace Go.Proofs.YtlhbgaiiehljpaaGreat.Ac
open Go.RowKit Go.Deep Go.Maps MonM Go.Proofs.YtlhbgaiiehljpaaGreat
set_option linter.unusedVariables false
set_option linter.unusedSimpArgs false
set_option maxHeartbeats 4000000
set_option maxRecDepth 100000
theorem set_row {w : World} {g i : Nat} {cs : Array Value} (cs' : Array Value) {t : TypeId} {v : Value} (h : w.heap[g]? = some (.cells cs t (0, 0))) (e : cs.setIfInBounds i v = cs') : (w.setCell ⟨g, i, none⟩ v).heap[g]? = some (.cells cs' t (0, 0)) := by
  rw [← e]; exact heap_setCell_same w g i cs t v h
theorem ofp_ne {w : World} {p : Option Addr} {c n : Nat} {xs : List Value} (h : w.ownsRow 0 104 1 (.slice p n c) n xs) {r : Nat} {cs : Array Value} {t : TypeId} (hr : w.heap[r]? = some (.cells cs t (0, 0))) (ht : t ≠ 104) : ¬ OfP p r := by
  intro e
  unfold OfP at e
  subst e
  obtain ⟨cur, e⟩ := own_ty h rfl
  rw [hr] at e
  injection e with e
  injection e with _ e
  exact ht e
theorem join_end {w : World} {H : Nat} {o : Int} {p : Option Addr} {c : Nat} {l : List (Nat × Sv)} {M : Option Nat} {n : Nat} {f : HoP} (h : Ho w H o p c l M n f) (s : Sv) (hx : ∀ y ∈ l, y.2.m < s.m)
    {W X : World} {b g d : Nat} (bW : Below w.heap.size w W) (hb : w.heap.size ≤ b) (rb : W.heap[b]? = some (.cells (srow s) 106 (0, 0)))
    (own : X.ownsRow 0 104 1 (.slice (some ⟨g, 0, none⟩) (l.length + 1) d) (l.length + 1) (pv l ++ [pb b])) (kp : Kp (fun j => OfP p j) W X) (hg : OfP p g ∨ g = W.heap.size) (hsz : l.length < 1000000) :
    Ho (X.setCell ⟨H, 1, none⟩ (.slice (some ⟨g, 0, none⟩) (l.length + 1) d)) H o (some ⟨g, 0, none⟩) d (l ++ [(b, s)]) M n f ∧ Kp (Ob H p (bks l) M) w (X.setCell ⟨H, 1, none⟩ (.slice (some ⟨g, 0, none⟩) (l.length + 1) d)) ∧ (OfP p g ∨ w.heap.size ≤ g) := by
  have hW := h.on bW
  have nH := ofp_ne hW.me.own hW.row (by decide)
  have rX := kp.row hW.row nH
  obtain ⟨Y, hY⟩ : ∃ Y, X.setCell ⟨H, 1, none⟩ (.slice (some ⟨g, 0, none⟩) (l.length + 1) d) = Y := ⟨_, rfl⟩
  have kY : Kp (fun j => j = H) X Y := by rw [← hY]; exact Kp.set X H 1 _
  have rY : Y.heap[H]? = some (.cells #[.int .u64 o, .slice (some ⟨g, 0, none⟩) (l.length + 1) d, .map M] 100 (0, 0)) := by rw [← hY]; exact set_row _ rX (by rfl)
  obtain ⟨cur, eg⟩ := own_ty own rfl
  have gH : g ≠ H := fun e => by
    subst e
    rw [rX] at eg
    injection eg with eg
    injection eg with _ eg
    exact absurd eg (by decide)
  have oY : Y.ownsRow 0 104 1 (.slice (some ⟨g, 0, none⟩) (l.length + 1) d) (l.length + 1) (pv l ++ [pb b]) := own_same own (fun g' e => by
    injection e with e
    have e : g = g' := e
    subst e
    exact kY.obj g (row_lt eg) gH)
  have key : ∀ {r : Nat} {cs : Array Value}, W.heap[r]? = some (.cells cs 106 (0, 0)) → Y.heap[r]? = some (.cells cs 106 (0, 0)) := fun {r cs} e => by
    have e1 := kp.row e (ofp_ne hW.me.own e (by decide))
    exact kY.row e1 (fun e2 => by
      subst e2
      rw [rX] at e1
      injection e1 with e1
      injection e1 with _ e1
      exact absurd e1 (by decide))
  rw [hY]
  refine ⟨⟨?_, ⟨?_, fun x hx' => ?_⟩, ?_, ?_, ?_, ?_⟩, ?_, ?_⟩
  · rw [show (l ++ [(b, s)]).length = l.length + 1 from by simp]
    exact rY
  · rw [show (l ++ [(b, s)]).length = l.length + 1 from by simp, show pv (l ++ [(b, s)]) = pv l ++ [pb b] from by simp [pv]]
    exact oY
  · rcases List.mem_append.1 hx' with h1 | h1
    · exact key (hW.me.st x h1)
    · simp at h1
      subst h1
      exact key rb
  · rw [List.map_append, List.nodup_append]
    refine ⟨h.nd, by simp, fun a ha b' hb' e => ?_⟩
    simp at hb'
    subst hb'
    have := h.lt (.inr (.inr (.inl ha)))
    omega
  · unfold Up
    rw [List.pairwise_append]
    refine ⟨h.up, by simp, fun a ha b' hb' => ?_⟩
    simp at hb'
    subst hb'
    exact hx a ha
  · simp
    omega
  · have h1 := hW.mp.kept kp (fun q e e2 => by
      have e3 := hW.mp
      rw [e] at e3
      obtain ⟨es, cl, e3⟩ := Mp.obj e3
      unfold OfP at e2
      have e4 := hW.me.own
      rw [e2] at e4
      obtain ⟨cur', e4⟩ := own_ty e4 rfl
      rw [e3] at e4
      cases e4)
    refine h1.kept kY (fun q e e2 => ?_)
    subst e2
    have e3 := h1
    rw [e] at e3
    obtain ⟨es, cl, e3⟩ := Mp.obj e3
    rw [rX] at e3
    cases e3
  · refine ((Kp.of _ bW).trans kp (fun q hq e => ?_)).trans kY (fun q _ e => .inl e)
    unfold OfP at e
    exact .inr (.inl ⟨_, e, rfl⟩)
  · exact hg.imp id (fun e => by have := bW.size; omega)
end Go.Proofs.YtlhbgaiiehljpaaGreat.Ac
