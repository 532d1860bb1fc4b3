/-
  text.readBody.
-/
import Derived.Test.YtolabllgnfpfaaaDoorTyE
namespace Go.Proofs.YtolabllgnfpfaaaDoor
open Go.RowKit Go.Deep Go.Lib Go.Shelf Go.Sort
set_option linter.unusedVariables false

/-- what readBody tells: the kind, the fields; with an error the place where its field begins. -/
noncomputable def bodyR (body : List UInt8) : List UInt8 → Nat → Nat → List UInt8 → List (Int × List UInt8) → List UInt8 × List (Int × List UInt8) × Nat × Int
  | [], _, _, kind, l => (kind, l, 0, 0)
  | c :: r, i, g, kind, l =>
    if c ≠ 1 then bodyR body r (i + 1) g kind l
    else if (fieldE ((body.drop g).take (i - g))).2 = false then ([], [], g, 3)
    else if g = 0 then
      (if (kindE (fieldE ((body.drop g).take (i - g))).1).2 ≠ 0 then ([], [], g, (kindE (fieldE ((body.drop g).take (i - g))).1).2)
       else bodyR body r (i + 1) (i + 1) (kindE (fieldE ((body.drop g).take (i - g))).1).1 l)
    else if l.length = 64 then ([], [], g, 2)
    else if fitsE l (fieldE ((body.drop g).take (i - g))).1 ≠ 0 then ([], [], g, fitsE l (fieldE ((body.drop g).take (i - g))).1)
    else bodyR body r (i + 1) (i + 1) kind (l ++ [(fieldE ((body.drop g).take (i - g))).1])
/-- tags in a slice of one's own. -/
def OwnT (B : Nat) (W0 w : World) (v : Value) (l : List (Int × List UInt8)) : Prop := w.ownsRow B 64 2 v l.length (tv l) ∧ Below B W0 w ∧ B ≤ w.heap.size
theorem OwnT.on {B : Nat} {W0 w w' : World} {v : Value} {l : List (Int × List UInt8)} (h : OwnT B W0 w v l) (hb : Below w.heap.size w w') : OwnT B W0 w' v l := by
  obtain ⟨⟨h1, h2⟩, h3, h4⟩ := h
  refine ⟨⟨h1, ?_⟩, h3.trans (hb.mono h4), Nat.le_trans h4 hb.size⟩
  rcases h2 with h2 | ⟨g, cap, cur, e, hB, hg, r⟩
  · exact Or.inl h2
  · refine Or.inr ⟨g, cap, cur, e, hB, ?_, r⟩
    have hlt : g < w.heap.size := by
      rcases Nat.lt_or_ge g w.heap.size with h | h
      · exact h
      · rw [Array.getElem?_eq_none h] at hg; cases hg
    rw [hb.block g hlt]; exact hg
theorem OwnT.form {B : Nat} {W0 w : World} {v : Value} {l : List (Int × List UInt8)} (h : OwnT B W0 w v l) : ∃ q cap, v = .slice q l.length cap ∧ Ts w q l ∧ l.length ≤ cap ∧ cap < 9223372036854775808 := by
  rcases h.1.2 with ⟨rfl, hn⟩ | ⟨g, cap, cur, e, hB, hg, h5, h6, h7, h8⟩
  · have hl : l = [] := List.length_eq_zero_iff.1 hn
    subst hl
    exact ⟨none, 0, rfl, (fun i hi => by simp at hi), Nat.le_refl _, by decide⟩
  · refine ⟨some ⟨g, 0, none⟩, cap, e, ?_, h5, by unfold maxLen at h6; omega⟩
    have h := h.1
    rw [e] at h
    exact ts_own rfl h
theorem ownT_nil (w : World) : OwnT w.heap.size w w (.slice none 0 0) [] := ⟨World.ownsRow_nil _ _ _ _, Below.refl _ _, Nat.le_refl _⟩
theorem ownT_nilB {w w' : World} (h : Below w.heap.size w w') : OwnT w.heap.size w w' (.slice none 0 0) [] := ⟨World.ownsRow_nil _ _ _ _, h, h.size⟩
/-- one tag behind a slice of one's own. -/
theorem own_tag {ops : Array Oper} {rest : List Oper} {o : Oper} {a : Act} {Q : Exit → Act → World → Prop} (hgd : o.guard = none) (sl x : Operand)
    (ho : o.op = .call { callee := .builtin .append, args := #[sl, x], argTypes := #[37, 37] }) (B : Nat) (v : Value) (l : List (Int × List UInt8)) (hs : a.eval sl = v) (W0 w0 : World) (t : Int) (s : List UInt8) (hb0 : OwnT B W0 w0 v l) (hx : a.eval x = .slice (some ⟨w0.heap.size, 0, none⟩) 1 1) (hlen : l.length ≤ 1000)
    (h : ∀ v' w', OwnT B W0 w' v' (l ++ [(t, s)]) → wpList Tryd.prog ops Q rest (a.put o.dst v') w') : wpList Tryd.prog ops Q (o :: rest) a (w0.alloc (.cells #[.int .i64 t, .string ⟨s.toArray⟩] 64)) := by
  obtain ⟨i0, hi, hz0, hz1, hz2⟩ := info_parts info28all
  have hb' : OwnT B W0 (w0.alloc (.cells #[.int .i64 t, .string ⟨s.toArray⟩] 64)) v l := hb0.on (ball _ _)
  refine wpList_append_own _ hgd sl x 37 ho B 64 i0 _ 2 24 Tryd.underlying37 hi hz0 hz1 hz2 rfl (by decide) v l.length _ hs hb'.1 ⟨w0.heap.size, 0, none⟩ 1 1 (tv [(t, s)]) hx rfl ?_ (tv_one _) (by unfold maxLen; omega) (by omega) hb'.2.2 ?_
  · intro j u hj
    rw [Addr.add_mid, Nat.zero_add, World.cell?_alloc_new]
    simpa [tv] using hj
  · intro v' w' ho' hg _
    refine h v' w' ⟨?_, hb'.2.1.grown hg hb'.2.2 (fun k hk => (hb'.1.lt k hk).1), Nat.le_trans hb'.2.2 hg.size⟩
    rw [tv_append, List.length_append]
    exact ho'

theorem res4 (fn : Func) (p u v x : Tmp) (h : fn.results = #[.tmp p, .tmp u, .tmp v, .tmp x]) (tmps : Array Value) (w : World) (ep eu ev ex : Value)
    (hp : tmps.getD p undef = ep) (hu : tmps.getD u undef = eu) (hv : tmps.getD v undef = ev) (hx : tmps.getD x undef = ex) :
    (results fn tmps).run Tryd.prog w = .ok (.tuple #[ep, eu, ev, ex]) w := by
  have hp' : tmps[p]?.getD undef = ep := by simpa using hp
  have hu' : tmps[u]?.getD undef = eu := by simpa using hu
  have hv' : tmps[v]?.getD undef = ev := by simpa using hv
  have hx' : tmps[x]?.getD undef = ex := by simpa using hx
  simp [results, h, hp', hu', hv', hx']
theorem fieldE_len (s : List UInt8) : (fieldE s).1.2.length ≤ s.length := by
  unfold fieldE
  split
  · simp
  · show (Lib.cut s [61]).2.1.length ≤ s.length
    unfold Lib.cut
    split
    · simp
    · simp
theorem OwnT.form' {B : Nat} {W0 w : World} {q : Option Addr} {c n : Nat} {l : List (Int × List UInt8)} (h : OwnT B W0 w (.slice q n c) l) : Ts w q l := by
  obtain ⟨q', c', e, hT, _⟩ := h.form
  have : q = q' := by simp at e; exact e.1
  rw [this]; exact hT
theorem bodyR_cons (body : List UInt8) {i : Nat} (hi : i < body.length) (g : Nat) (kind : List UInt8) (l : List (Int × List UInt8)) : bodyR body (body.drop i) i g kind l = bodyR body (body[i] :: body.drop (i + 1)) i g kind l := by
  rw [← List.drop_eq_getElem_cons hi]

set_option maxHeartbeats 4000000 in
set_option maxRecDepth 100000 in
/-- text.readBody. -/
theorem readbody_any (body : List UInt8) (q : Option Addr) (cap : Nat) (w : World) (hl : body.length ≤ 5000) (hcap : body.length ≤ cap) (hcm : cap < 9223372036854775808) (hS : Sb w q body) (hM : LayM w) :
    Calls Tryd.prog 20 #[.slice q body.length cap] w fun e w' => ∃ v, e = .returned (.tuple #[.string ⟨(bodyR body body 0 0 [] []).1.toArray⟩, v, .int .i64 ((bodyR body body 0 0 [] []).2.2.1 : Nat), .int .i64 (bodyR body body 0 0 [] []).2.2.2]) ∧ OwnT w.heap.size w w' v (bodyR body body 0 0 [] []).2.1 := by
  have HS := hid hS
  have HM := hid hM
  obtain ⟨R, hR⟩ : ∃ R, bodyR body body 0 0 [] [] = R := ⟨_, rfl⟩
  rw [hR]
  have HR := hid hR
  clear hS hM hR
  go_enter Tryd.func20, Tryd.ntmps20
  go_wp2_with fail
  go_loopw [6, 7, 8, 15] (fun kv lv gv iv wr => ∃ (i g : Nat) (kind : List UInt8) (l : List (Int × List UInt8)), i ≤ body.length ∧ g ≤ i ∧ kv = .string ⟨kind.toArray⟩ ∧ gv = .int .i64 g ∧ iv = .int .i64 i ∧ l.length ≤ 64 ∧ Hid (OwnT w.heap.size w wr lv l) ∧ Hid (bodyR body (body.drop i) i g kind l = R)) (fun _ _ _ iv _ => body.length - (RowKit.intOf iv).toNat)
  case atStart => exact ⟨0, 0, [], [], Nat.zero_le _, Nat.le_refl _, rfl, rfl, rfl, by simp, hid (ownT_nil _), hid (by simpa using HR.out)⟩
  case round =>
    obtain ⟨i, g, kind, l, hi, hg, rfl, rfl, rfl, hl64, HO, HE⟩ := hrel
    by_cases hlt : i < body.length
    · obtain ⟨b, o, rfl, h0⟩ := (HS.out.on HO.out.2.1) i hlt
      obtain ⟨ql, cl, rfl, hTl, hcl, _⟩ := HO.out.form
      have i0 : (0 : Int) ≤ (i : Int) := by omega
      have i1 : (i : Int) < (body.length : Int) := by omega
      have he := HE.out
      rw [bodyR_cons body hlt] at he
      obtain ⟨c, hc⟩ : ∃ c, body[i] = c := ⟨_, rfl⟩
      rw [hc] at h0 he
      simp only [bodyR] at he
      by_cases hc1 : c = 1
      · rw [if_neg (by simpa using hc1)] at he
        subst hc1
        have j0 : (0 : Int) ≤ (g : Int) := by omega
        have j1 : (g : Int) ≤ (i : Int) := by omega
        have j2 : (i : Int) ≤ (cap : Int) := by omega
        have j3 : ¬ cap = g := by omega
        have hsl : ((body.drop g).take (i - g)).length = i - g := by simp; omega
        have CV := hid (conv_sb (((HS.out.on HO.out.2.1).drop g).take (i - g)) (cap - g))
        rw [hsl] at CV
        have RF := hid (fun w' hM => readfield_any ((body.drop g).take (i - g)) w' (by omega) hM)
        have hvl := fieldE_len ((body.drop g).take (i - g))
        rw [hsl] at hvl
        obtain ⟨SS, hSS⟩ : ∃ s, (body.drop g).take (i - g) = s := ⟨_, rfl⟩
        rw [hSS] at CV RF hvl he
        obtain ⟨z, v, ok, hf⟩ : ∃ z v ok, fieldE SS = ((z, v), ok) := ⟨_, _, _, rfl⟩
        rw [hf] at RF hvl he
        simp only at RF hvl he
        have cv := CV.out
        have hvl2 : v.length ≤ 5000 := by omega
        clear hSS hf hc hsl HE hTl
        cases ok with
        | false =>
          rw [if_pos rfl] at he
          subst he
          go_wp2_with (first | (go_at_call 32; refine (RF.out _ (HM.out.on HO.out.2.1)).mono ?_; rintro e w1 ⟨rfl, hb⟩; have HO1 := hid (HO.out.on (btr' hb (ball w1 (.cells #[.int .i64 z, .string ⟨v.toArray⟩] 64)))); have HW1 := hid (show Below wr.heap.size wr w1 from hb); clear hb))
          refine bodyPost_ret (res4 Tryd.f20 2 3 4 5 Tryd.results20 _ _ _ _ _ _ (by rfl) (by rfl) (by rfl) (by rfl)) rfl ?_
          exact ⟨_, rfl, ownT_nilB HO1.out.2.1⟩
        | true =>
          rw [if_neg (by decide)] at he
          by_cases hg0 : g = 0
          · rw [if_pos hg0] at he
            have KO := hid (fun w' => kindof_any z v w' (by omega))
            obtain ⟨k2, e2, hk2⟩ : ∃ k e, kindE (z, v) = (k, e) := ⟨_, _, rfl⟩
            rw [hk2] at KO he
            simp only at KO he
            subst hg0
            simp only [Nat.add_zero, Nat.sub_zero] at cv
            clear hk2
            by_cases he0 : e2 = 0
            · rw [if_neg (by simpa using he0)] at he
              subst he0
              have HE2 := hid he
              clear he
              go_wp2_with (first | (go_at_call 32; refine (RF.out _ (HM.out.on HO.out.2.1)).mono ?_; rintro e w1 ⟨rfl, hb⟩; have HO1 := hid (HO.out.on (btr' hb (ball w1 (.cells #[.int .i64 z, .string ⟨v.toArray⟩] 64)))); have HW1 := hid (show Below wr.heap.size wr w1 from hb); clear hb) | (go_at_call 33; refine (KO.out _).mono ?_; rintro e w2 ⟨rfl, hb⟩; have HO2 := hid (HO1.out.on hb); clear hb))
              go_roundw
              case rel => exact ⟨i + 1, i + 1, k2, l, by omega, Nat.le_refl _, rfl, by go_num, by go_num, hl64, HO2, HE2⟩
              case measure => simp [RowKit.intOf]; omega
            · rw [if_pos he0] at he
              subst he
              have hne : (e2 != 0) = true := by simpa using he0
              clear he0
              go_wp2_with (first | (go_at_call 32; refine (RF.out _ (HM.out.on HO.out.2.1)).mono ?_; rintro e w1 ⟨rfl, hb⟩; have HO1 := hid (HO.out.on (btr' hb (ball w1 (.cells #[.int .i64 z, .string ⟨v.toArray⟩] 64)))); have HW1 := hid (show Below wr.heap.size wr w1 from hb); clear hb) | (go_at_call 33; refine (KO.out _).mono ?_; rintro e w2 ⟨rfl, hb⟩; have HO2 := hid (HO1.out.on hb); clear hb))
              refine bodyPost_ret (res4 Tryd.f20 2 3 4 5 Tryd.results20 _ _ _ _ _ _ (by rfl) (by rfl) (by rfl) (by rfl)) rfl ?_
              exact ⟨_, rfl, ownT_nilB HO2.out.2.1⟩
          · rw [if_neg hg0] at he
            have hgf : ((g : Int) == 0) = false := by simp; omega
            clear hg0
            by_cases h64 : l.length = 64
            · rw [if_pos h64] at he
              subst he
              have g64 : ((l.length : Int) == 64) = true := by simp; omega
              clear h64
              go_wp2_with (first | (go_at_call 32; refine (RF.out _ (HM.out.on HO.out.2.1)).mono ?_; rintro e w1 ⟨rfl, hb⟩; have HO1 := hid (HO.out.on (btr' hb (ball w1 (.cells #[.int .i64 z, .string ⟨v.toArray⟩] 64)))); have HW1 := hid (show Below wr.heap.size wr w1 from hb); clear hb))
              refine bodyPost_ret (res4 Tryd.f20 2 3 4 5 Tryd.results20 _ _ _ _ _ _ (by rfl) (by rfl) (by rfl) (by rfl)) rfl ?_
              exact ⟨_, rfl, ownT_nilB HO1.out.2.1⟩
            · rw [if_neg h64] at he
              have g64 : ((l.length : Int) == 64) = false := by simp; omega
              have hl63 : l.length + 1 ≤ 64 := by omega
              have FT := hid (fun w' hT => fits_any l ql cl z v w' (by omega) (by omega) hT)
              obtain ⟨e2, hk2⟩ : ∃ e, fitsE l (z, v) = e := ⟨_, rfl⟩
              rw [hk2] at FT he
              clear hk2 h64
              by_cases he0 : e2 = 0
              · rw [if_neg (by simpa using he0)] at he
                subst he0
                have HE2 := hid he
                clear he
                go_wp2_with (first | (go_at_call 32; refine (RF.out _ (HM.out.on HO.out.2.1)).mono ?_; rintro e w1 ⟨rfl, hb⟩; have HO1 := hid (HO.out.on (btr' hb (ball w1 (.cells #[.int .i64 z, .string ⟨v.toArray⟩] 64)))); have HW1 := hid (show Below wr.heap.size wr w1 from hb); clear hb) | (go_at_call 25; refine (FT.out _ HO1.out.form').mono ?_; rintro e w2 ⟨rfl, hb⟩; have HO2 := hid (HO1.out.on hb); have b20 := cell_new 0 hb rfl; have b21 := cell_new 1 hb rfl; clear hb) | (at_builtin; refine own_tag (by rfl) (.tmp 35) (.tmp 37) (by rfl) w.heap.size _ l (by rfl) w w2 z v HO2.out (by rfl) (by omega) ?_; intro v3 w3 hO3; have HO3 := hid hO3; clear hO3))
                go_roundw
                case rel => exact ⟨i + 1, i + 1, kind, l ++ [(z, v)], by omega, Nat.le_refl _, rfl, by go_num, by go_num, by simp; omega, HO3, HE2⟩
                case measure => simp [RowKit.intOf]; omega
              · rw [if_pos he0] at he
                subst he
                have hne : (e2 != 0) = true := by simpa using he0
                clear he0
                go_wp2_with (first | (go_at_call 32; refine (RF.out _ (HM.out.on HO.out.2.1)).mono ?_; rintro e w1 ⟨rfl, hb⟩; have HO1 := hid (HO.out.on (btr' hb (ball w1 (.cells #[.int .i64 z, .string ⟨v.toArray⟩] 64)))); have HW1 := hid (show Below wr.heap.size wr w1 from hb); clear hb) | (go_at_call 25; refine (FT.out _ HO1.out.form').mono ?_; rintro e w2 ⟨rfl, hb⟩; have HO2 := hid (HO1.out.on hb); have b20 := cell_new 0 hb rfl; have b21 := cell_new 1 hb rfl; clear hb) | (at_builtin; refine own_tag (by rfl) (.tmp 35) (.tmp 37) (by rfl) w.heap.size _ l (by rfl) w w2 z v HO2.out (by rfl) (by omega) ?_; intro v3 w3 hO3; have HO3 := hid hO3; clear hO3))
                refine bodyPost_ret (res4 Tryd.f20 2 3 4 5 Tryd.results20 _ _ _ _ _ _ (by rfl) (by rfl) (by rfl) (by rfl)) rfl ?_
                exact ⟨_, rfl, ownT_nilB HO3.out.2.1⟩
      · rw [if_pos hc1] at he
        have HE2 := hid he
        have hne : ((c.toNat : Int) != 1) = true := by
          simp
          intro e
          have e2 : c.toNat = 1 := by omega
          exact hc1 (UInt8.toNat_inj.1 (by simpa using e2))
        clear he hc1 hc
        go_wp2
        go_roundw
        case rel => exact ⟨i + 1, g, kind, l, by omega, by omega, rfl, rfl, by go_num, hl64, HO, HE2⟩
        case measure => simp [RowKit.intOf]; omega
    · have he := HE.out
      rw [List.drop_eq_nil_of_le (by omega)] at he
      simp only [bodyR] at he
      subst he
      go_wp2
      refine bodyPost_ret (res4 Tryd.f20 2 3 4 5 Tryd.results20 _ _ _ _ _ _ (by rfl) (by rfl) (by rfl) (by rfl)) rfl ?_
      exact ⟨_, rfl, HO.out⟩
end Go.Proofs.YtolabllgnfpfaaaDoor
