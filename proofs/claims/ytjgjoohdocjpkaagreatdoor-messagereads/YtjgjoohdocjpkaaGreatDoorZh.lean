/-
  The texts of this claim, part 8.
-/
import Derived.Test.YtjgjoohdocjpkaaGreatDoorZg
namespace Go.Proofs.YtjgjoohdocjpkaaGreatDoor.Msg
open Go.RowKit Go.Maps Go.Deep Go.Lib
set_option linter.unusedVariables false
set_option linter.unusedSimpArgs false
theorem own_nilW {w w' : World} (h : Below w.heap.size w w') : Own w.heap.size w w' (.slice none 0 0) [] := own_nilB h
theorem res27t (fn : Func) (p u v : Tmp) (h : fn.results = #[.cell p 29, .tmp u, .tmp v]) (tmps : Array Value) (w : World) (g : Nat) (cs : Array Value) (eu ev : Value)
    (hp : tmps.getD p undef = .pointer (some ⟨g, 0, none⟩)) (hu : tmps.getD u undef = eu) (hv : tmps.getD v undef = ev) (hg : w.heap[g]? = some (.cells cs 29 (0, 0))) (hi : (Tryz.prog.info? 29).map (·.size) = some cs.size) :
    (results fn tmps).run Tryz.prog w = .ok (.tuple #[.agg cs, eu, ev]) w := by
  have hp' : tmps[p]?.getD undef = .pointer (some ⟨g, 0, none⟩) := by simpa using hp
  have hu' : tmps[u]?.getD undef = eu := by simpa using hu
  have hv' : tmps[v]?.getD undef = ev := by simpa using hv
  simp [results, h, hp', hu', hv', asAddr, run_loadVar_row w g 29 29 cs (0, 0) _ hg Tryz.underlying29 rfl hi]
theorem res30t (fn : Func) (p u v : Tmp) (h : fn.results = #[.cell p 34, .tmp u, .tmp v]) (tmps : Array Value) (w : World) (g : Nat) (cs : Array Value) (eu ev : Value)
    (hp : tmps.getD p undef = .pointer (some ⟨g, 0, none⟩)) (hu : tmps.getD u undef = eu) (hv : tmps.getD v undef = ev) (hg : w.heap[g]? = some (.cells cs 34 (0, 0))) (hi : (Tryz.prog.info? 34).map (·.size) = some cs.size) :
    (results fn tmps).run Tryz.prog w = .ok (.tuple #[.agg cs, eu, ev]) w := by
  have hp' : tmps[p]?.getD undef = .pointer (some ⟨g, 0, none⟩) := by simpa using hp
  have hu' : tmps[u]?.getD undef = eu := by simpa using hu
  have hv' : tmps[v]?.getD undef = ev := by simpa using hv
  simp [results, h, hp', hu', hv', asAddr, run_loadVar_row w g 34 34 cs (0, 0) _ hg Tryz.underlying34 rfl hi]

set_option maxHeartbeats 2000000 in
set_option maxRecDepth 100000 in
theorem lineI_any (x : Inp) (hx : x.Ok) (w : World) (hL : Lay w) :
    Calls Tryz.prog 14 #[.agg x.v] w fun e w' => ∃ v, e = .returned (.tuple #[v, .int .i64 x.e]) ∧ Own w.heap.size w w' v (lnB x) ∧ (x.e ≠ 0 → v = .slice none 0 0) := by
  by_cases h : x.e = 0
  · have SA := hid (fun w => say_ok x hx w h)
    have LN := hid (fun b n w hF hL => line_any x.k (kd_inp x h) b n x.F (F_wd x hx) w hF hL)
    have hln : lnB x = lineB (lineK x.k) (ltL x.k x.F (tagsL x.k)) := by unfold lnB; rw [if_pos h]; rfl
    rw [h, hln]
    obtain ⟨OUT, hO⟩ : ∃ y, lineB (lineK x.k) (ltL x.k x.F (tagsL x.k)) = y := ⟨_, rfl⟩
    rw [hO] at LN ⊢
    obtain ⟨k, hk⟩ : ∃ k, x.k = k := ⟨_, rfl⟩
    rw [hk] at SA LN
    have HL := hid hL
    clear hk hx h hln hO hL
    unfold Inp.v iV at *
    go_enter Tryz.func14, Tryz.ntmps14
    go_wp2_with (first | (go_at_call 37; refine (SA.out _).mono ?_; rintro e w2 ⟨b, n, rfl, hF, hb⟩; have HF := hid hF; have HB := hid hb; clear hF hb; refine Hid.out ?_))
    have HF2 := hid (HF.out.alloc (.cells #[.int .u8 k, .map (some b)] 46))
    have HB2 := hid (show Below w.heap.size w (w2.alloc (.cells #[.int .u8 k, .map (some b)] 46)) from btr (btr (ball _ _) HB.out) (ball _ _))
    have HL2 := hid (HL.out.on HB2.out)
    clear HF HB SA
    refine hid ?_
    go_wp2_with (first | (go_at_call 38; refine (LN.out _ _ _ HF2.out HL2.out).mono ?_; rintro e w3 ⟨v, rfl, hO⟩; have HO := hid hO; clear hO; refine Hid.out ?_))
    refine hid ?_
    go_wp2
    go_ret2
    exact ⟨v, by simp, Own.down HO.out HB2.out HB2.out.size, fun h => absurd rfl h⟩
  · have SA := hid (fun w => say_bad x hx w h)
    have hln : lnB x = [] := by unfold lnB; rw [if_neg h]
    rw [hln]
    obtain ⟨E, hE⟩ : ∃ E, x.e = E := ⟨_, rfl⟩
    rw [hE] at SA h ⊢
    have hne : (E != 0) = true := by simpa using h
    clear h hx hE hln
    unfold Inp.v iV at *
    go_enter Tryz.func14, Tryz.ntmps14
    go_wp2_with (first | (go_at_call 37; refine (SA.out _).mono ?_; rintro e w2 ⟨rfl, hb⟩; have HB := hid hb; clear hb; refine Hid.out ?_))
    refine hid ?_
    go_wp2
    go_ret2
    exact ⟨_, by simp, own_nilW (btr (btr (ball _ _) HB.out) (ball _ _)), fun _ => rfl⟩

set_option maxHeartbeats 2000000 in
set_option maxRecDepth 100000 in
theorem lineE_any (x : Evt) (hx : x.Ok) (w : World) (hL : Lay w) :
    Calls Tryz.prog 25 #[.agg x.v] w fun e w' => ∃ v, e = .returned (.tuple #[v, .int .i64 x.e]) ∧ Own w.heap.size w w' v (lnE x) ∧ (x.e ≠ 0 → v = .slice none 0 0) := by
  by_cases h : x.e = 0
  · have SA := hid (fun w => sayE_ok x hx w h)
    have LN := hid (fun b n w hF hL => line_any x.k (kd_evt x h).1 b n x.F (FE_wd x hx) w hF hL)
    have hln : lnE x = lineB (lineK x.k) (ltL x.k x.F (tagsL x.k)) := by unfold lnE; rw [if_pos h]; rfl
    rw [h, hln]
    obtain ⟨OUT, hO⟩ : ∃ y, lineB (lineK x.k) (ltL x.k x.F (tagsL x.k)) = y := ⟨_, rfl⟩
    rw [hO] at LN ⊢
    obtain ⟨k, hk⟩ : ∃ k, x.k = k := ⟨_, rfl⟩
    rw [hk] at SA LN
    have HL := hid hL
    clear hk hx h hln hO hL
    unfold Evt.v eV at *
    go_enter Tryz.func25, Tryz.ntmps25
    go_wp2_with (first | (go_at_call 45; refine (SA.out _).mono ?_; rintro e w2 ⟨b, n, rfl, hF, hb⟩; have HF := hid hF; have HB := hid hb; clear hF hb; refine Hid.out ?_))
    have HF2 := hid (HF.out.alloc (.cells #[.int .u8 k, .map (some b)] 46))
    have HB2 := hid (show Below w.heap.size w (w2.alloc (.cells #[.int .u8 k, .map (some b)] 46)) from btr (btr (ball _ _) HB.out) (ball _ _))
    have HL2 := hid (HL.out.on HB2.out)
    clear HF HB SA
    refine hid ?_
    go_wp2_with (first | (go_at_call 38; refine (LN.out _ _ _ HF2.out HL2.out).mono ?_; rintro e w3 ⟨v, rfl, hO⟩; have HO := hid hO; clear hO; refine Hid.out ?_))
    refine hid ?_
    go_wp2
    go_ret2
    exact ⟨v, by simp, Own.down HO.out HB2.out HB2.out.size, fun h => absurd rfl h⟩
  · have SA := hid (fun w => sayE_bad x hx w h)
    have hln : lnE x = [] := by unfold lnE; rw [if_neg h]
    rw [hln]
    obtain ⟨E, hE⟩ : ∃ E, x.e = E := ⟨_, rfl⟩
    rw [hE] at SA h ⊢
    have hne : (E != 0) = true := by simpa using h
    clear h hx hE hln
    unfold Evt.v eV at *
    go_enter Tryz.func25, Tryz.ntmps25
    go_wp2_with (first | (go_at_call 45; refine (SA.out _).mono ?_; rintro e w2 ⟨rfl, hb⟩; have HB := hid hb; clear hb; refine Hid.out ?_))
    refine hid ?_
    go_wp2
    go_ret2
    exact ⟨_, by simp, own_nilW (btr (btr (ball _ _) HB.out) (ball _ _)), fun _ => rfl⟩

set_option maxHeartbeats 4000000 in
set_option maxRecDepth 100000 in
theorem readI_any (l : List UInt8) (q : Option Addr) (cap : Nat) (w : World) (hl : l.length < 4611686018427387904) (hcap : l.length ≤ cap) (hcm : cap < 9223372036854775808) (hS : Sb w q l) (hM : LayM w) :
    Calls Tryz.prog 5 #[.slice q l.length cap] w fun e w' => e = .returned (.tuple #[.agg (rlR l).1.v, .int .i64 ((rlR l).2.1 : Nat), .int .i64 (rlR l).2.2]) ∧ Below w.heap.size w w' := by
  have HS := hid hS
  have HM := hid hM
  have HI := hid (heap_alloc_new w (.cells zeroI.v 29))
  have HB0 := hid (ball w (.cells zeroI.v 29))
  have DE := hid (fun w hS hM => decode_any l q cap w hl hcap hcm hS hM)
  obtain ⟨kd, tg, n, er, hd⟩ : ∃ a b c d, decR l = (a, b, c, d) := ⟨_, _, _, _, rfl⟩
  have HD := hid hd
  rw [hd] at DE
  simp only at DE
  have HZ := hid (show zeroI.v = #[.int .i64 0, .int .i64 0, .int .u64 0, .int .u64 0, .int .u32 0, .int .i64 0, .int .i64 0, .int .i64 0, .int .u64 0, .int .u64 0, .int .i64 0] from rfl)
  rw [HZ.out] at HI HB0
  clear hS hM
  by_cases he : er = 0
  · subst he
    obtain ⟨n1, n2, n3, n4⟩ := decR_back hd
    obtain ⟨s1, s2, s3⟩ := line_small n3
    have HS3 := hid s3
    clear hd n3 n4 s3
    cases hk : inK kd with
    | none =>
      have hr : rlR l = (zeroI, 0, 41) := by
        unfold rlR
        rw [HD.out]
        simp only [ne_eq, not_true_eq_false, if_false, hk]
      rw [hr]
      simp only
      rw [HZ.out]
      have IK := hid (fun w => inputkind_any kd w)
      rw [hk] at IK
      clear hr HD
      go_enter Tryz.func5, Tryz.ntmps5
      go_wp2_with (first | (go_at_call 10; refine (DE.out _ (HS.out.on HB0.out) (HM.out.on HB0.out)).mono ?_; rintro e w2 ⟨v, rfl, hO⟩; have HO := hid hO; clear hO; refine Hid.out ?_))
      have HI2 := hid (row_on HI.out HO.out.2.1)
      have HB2 := hid (btr HB0.out HO.out.2.1)
      obtain ⟨ql, cl, rfl, hTl, hcl, hml⟩ := HO.out.form
      have HT := hid hTl
      have HE2 := hid (HM.out.on HB2.out).laye
      clear hTl HO DE HI HB0
      refine hid ?_
      have HI2K := hid HI2.out
      have HBK := hid HB2.out
      have HTK2 := hid HT.out
      have HEK := hid HE2.out
      go_wp2_with (first | (go_at_call 11; refine (IK.out _).mono ?_; rintro e w' ⟨rfl, rfl⟩; refine Hid.out ?_))
      refine hid ?_
      have HI3 := HI2K.out
      go_wp2_with (first | (refine wpList_st (by rfl) 29 (.tmp 2) (.tmp 33) (by rfl) w.heap.size #[.int .i64 0, .int .i64 0, .int .u64 0, .int .u64 0, .int .u32 0, .int .i64 0, .int .i64 0, .int .i64 0, .int .u64 0, .int .u64 0, .int .i64 0] (by rfl) (by rfl) 29 #[.int .i64 0, .int .i64 0, .int .u64 0, .int .u64 0, .int .u32 0, .int .i64 0, .int .i64 0, .int .i64 0, .int .u64 0, .int .u64 0, .int .i64 0] HI3 info27 rfl (by simp [Value.oneCell']) ?_; intro w5 hst; have HST := hid hst; clear hst; refine Hid.out ?_))
      refine hid ?_
      go_wp2
      exact bodyPost_ret (res27t Tryz.f5 2 3 4 Tryz.results5 _ _ w.heap.size #[.int .i64 0, .int .i64 0, .int .u64 0, .int .u64 0, .int .u32 0, .int .i64 0, .int .i64 0, .int .i64 0, .int .u64 0, .int .u64 0, .int .i64 0] _ _ (by rfl) (by rfl) (by rfl) HST.out.row info27) rfl ⟨by simp, HST.out.bel _ _ HBK.out (Nat.le_refl _)⟩
    | some k =>
      have hkk := inK_rg hk
      have IK := hid (fun w => inputkind_any kd w)
      rw [hk] at IK
      have RT := hid (fun q cap w hT hE => readtags_any k tg q cap w (by omega) (fun x hx => by have := HS3.out x hx; omega) hT hE)
      have IN := hid (fun b n w hF => input_any k b n (only (tagsL k) (nmF tg)) w (by omega) (by omega) hF)
      rw [inpV_rl k tg hkk.1 hkk.2.1] at IN
      have LI := hid (fun w hL => lineI_any (rlI k tg) (rlI_ok k tg).1 w hL)
      obtain ⟨Y, hY⟩ : ∃ y, rlI k tg = y := ⟨_, rfl⟩
      rw [hY] at IN LI
      have htl : (l.take n).length = n := by simp; omega
      have EQ := hid (fun q1 q2 c1 c2 w h1 h2 => equal_any (lnB Y) (l.take n) q1 q2 c1 c2 w h1 h2)
      rw [htl] at EQ
      have hr : rlR l = if Y.e = 0 ∧ lnB Y = l.take n then (Y, n, 0) else (zeroI, 0, 40) := by
        unfold rlR
        rw [HD.out]
        simp only [ne_eq, not_true_eq_false, if_false, hk]
        rw [hY]
      obtain ⟨OUT, hO⟩ : ∃ y, lnB Y = y := ⟨_, rfl⟩
      rw [hO] at EQ LI hr
      obtain ⟨E, hE⟩ : ∃ y, Y.e = y := ⟨_, rfl⟩
      rw [hE] at LI hr
      have HTK := hid (fun (w' : World) (hb : Below w.heap.size w w') => ((HS.out.on hb).take n))
      obtain ⟨bq, oq, rfl, _⟩ := HS.out 0 (by omega)
      have g3 : (0 : Int) ≤ (n : Int) := by omega
      have g4 : (n : Int) ≤ (cap : Int) := by omega
      clear hk hY HD hO hE hkk
      unfold Inp.v iV at *
      go_enter Tryz.func5, Tryz.ntmps5
      go_wp2_with (first | (go_at_call 10; refine (DE.out _ (HS.out.on HB0.out) (HM.out.on HB0.out)).mono ?_; rintro e w2 ⟨v, rfl, hO⟩; have HO := hid hO; clear hO; refine Hid.out ?_))
      have HI2 := hid (row_on HI.out HO.out.2.1)
      have HB2 := hid (btr HB0.out HO.out.2.1)
      obtain ⟨ql, cl, rfl, hTl, hcl, hml⟩ := HO.out.form
      have HT := hid hTl
      have HE2 := hid (HM.out.on HB2.out).laye
      clear hTl HO DE HI HB0
      refine hid ?_
      have HI2K := hid HI2.out
      have HBK := hid HB2.out
      have HTK2 := hid HT.out
      have HEK := hid HE2.out
      go_wp2_with (first | (go_at_call 11; refine (IK.out _).mono ?_; rintro e w' ⟨rfl, rfl⟩; refine Hid.out ?_))
      refine hid ?_
      go_wp2_with (first | (go_at_call 12; refine (RT.out _ _ _ HTK2.out HEK.out).mono ?_; rintro e w3 ⟨b, m, rfl, _, _, hF, hb⟩; have HF := hid hF; have HI4 := hid (row_on HI2K.out hb); have HB3 := hid (btr HBK.out hb); clear hF hb; refine Hid.out ?_))
      refine hid ?_
      go_wp2_with (first | (go_at_call 13; refine (IN.out _ _ _ HF.out).mono ?_; rintro e w4 ⟨rfl, hb⟩; have HI5 := hid (row_on HI4.out hb); have HB4 := hid (btr HB3.out hb); clear hb; refine Hid.out ?_))
      have HX5 := hid (heap_alloc_new w4 (.cells #[.int .i64 Y.ki, .int .i64 Y.co, .int .u64 Y.id, .int .u64 Y.tg, .int .u32 Y.me, .int .i64 Y.si, .int .i64 Y.ty, .int .i64 Y.pr, .int .u64 Y.qt, .int .u64 Y.pe, .int .i64 Y.en] 29))
      have HI6 := hid (row_on HI5.out (ball w4 (.cells #[.int .i64 Y.ki, .int .i64 Y.co, .int .u64 Y.id, .int .u64 Y.tg, .int .u32 Y.me, .int .i64 Y.si, .int .i64 Y.ty, .int .i64 Y.pr, .int .u64 Y.qt, .int .u64 Y.pe, .int .i64 Y.en] 29)))
      have HB5 := hid (btr HB4.out (ball w4 (.cells #[.int .i64 Y.ki, .int .i64 Y.co, .int .u64 Y.id, .int .u64 Y.tg, .int .u32 Y.me, .int .i64 Y.si, .int .i64 Y.ty, .int .i64 Y.pr, .int .u64 Y.qt, .int .u64 Y.pe, .int .i64 Y.en] 29)))
      clear HI4 HI5 HB3 HB4 HF RT IN
      refine hid ?_
      go_wp2_with (first | (go_at_call 14; refine (LI.out _ (HM.out.on HB5.out).laye.lay).mono ?_; rintro e w6 ⟨v6, rfl, hO6, hn6⟩; have HO6 := hid hO6; have HN6 := hid hn6; clear hO6 hn6; refine Hid.out ?_))
      have HX7 := hid (row_on HX5.out HO6.out.2.1)
      have HI7 := hid (row_on HI6.out HO6.out.2.1)
      have HB7 := hid (btr HB5.out HO6.out.2.1)
      obtain ⟨q6, c6, rfl, hS6⟩ := HO6.out.form
      have HS6 := hid hS6
      have HZ7 := HI7.out
      clear hS6 HO6 HX5 HI6 HB5 LI
      by_cases hE0 : E = 0
      · subst hE0
        have EQ2 := hid (fun w h1 h2 => EQ.out q6 (some ⟨bq, oq, none⟩) c6 cap w h1 h2)
        by_cases hq : OUT = l.take n
        · have hqt : (OUT == l.take n) = true := by simpa using hq
          rw [hqt] at EQ2
          rw [if_pos ⟨rfl, hq⟩] at hr
          have HR := hid hr
          clear hr hq hqt EQ
          refine hid ?_
          go_wp2_with (first | (go_at_call 15; refine (EQ2.out _ HS6.out (HTK.out _ HB7.out)).mono ?_; rintro e w' ⟨rfl, rfl⟩) | (refine wpList_load_row (by rfl) 29 (.tmp 11) (by rfl) w4.heap.size (by rfl) 29 #[.int .i64 Y.ki, .int .i64 Y.co, .int .u64 Y.id, .int .u64 Y.tg, .int .u32 Y.me, .int .i64 Y.si, .int .i64 Y.ty, .int .i64 Y.pr, .int .u64 Y.qt, .int .u64 Y.pe, .int .i64 Y.en] (0, 0) _ HX7.out Tryz.underlying29 rfl info27 ?_) | (refine wpList_st (by rfl) 29 (.tmp 2) (.tmp 54) (by rfl) w.heap.size #[.int .i64 Y.ki, .int .i64 Y.co, .int .u64 Y.id, .int .u64 Y.tg, .int .u32 Y.me, .int .i64 Y.si, .int .i64 Y.ty, .int .i64 Y.pr, .int .u64 Y.qt, .int .u64 Y.pe, .int .i64 Y.en] (by rfl) (by rfl) 29 #[.int .i64 0, .int .i64 0, .int .u64 0, .int .u64 0, .int .u32 0, .int .i64 0, .int .i64 0, .int .i64 0, .int .u64 0, .int .u64 0, .int .i64 0] HZ7 info27 rfl (by simp [Value.oneCell']) ?_; intro w8 hst; have HST := hid hst; clear hst; refine Hid.out ?_))
          refine hid ?_
          go_wp2
          exact bodyPost_ret (res27t Tryz.f5 2 3 4 Tryz.results5 _ _ w.heap.size #[.int .i64 Y.ki, .int .i64 Y.co, .int .u64 Y.id, .int .u64 Y.tg, .int .u32 Y.me, .int .i64 Y.si, .int .i64 Y.ty, .int .i64 Y.pr, .int .u64 Y.qt, .int .u64 Y.pe, .int .i64 Y.en] _ _ (by rfl) (by rfl) (by rfl) HST.out.row info27) rfl ⟨by rw [HR.out]; rfl, HST.out.bel _ _ HB7.out (Nat.le_refl _)⟩
        · have hqt : (OUT == l.take n) = false := by simpa using hq
          rw [hqt] at EQ2
          rw [if_neg (fun h => hq h.2)] at hr
          have HR := hid hr
          clear hr hq hqt EQ
          refine hid ?_
          go_wp2_with (first | (go_at_call 15; refine (EQ2.out _ HS6.out (HTK.out _ HB7.out)).mono ?_; rintro e w' ⟨rfl, rfl⟩) | (refine wpList_st (by rfl) 29 (.tmp 2) (.tmp 53) (by rfl) w.heap.size #[.int .i64 0, .int .i64 0, .int .u64 0, .int .u64 0, .int .u32 0, .int .i64 0, .int .i64 0, .int .i64 0, .int .u64 0, .int .u64 0, .int .i64 0] (by rfl) (by rfl) 29 #[.int .i64 0, .int .i64 0, .int .u64 0, .int .u64 0, .int .u32 0, .int .i64 0, .int .i64 0, .int .i64 0, .int .u64 0, .int .u64 0, .int .i64 0] HZ7 info27 rfl (by simp [Value.oneCell']) ?_; intro w8 hst; have HST := hid hst; clear hst; refine Hid.out ?_))
          refine hid ?_
          go_wp2
          exact bodyPost_ret (res27t Tryz.f5 2 3 4 Tryz.results5 _ _ w.heap.size #[.int .i64 0, .int .i64 0, .int .u64 0, .int .u64 0, .int .u32 0, .int .i64 0, .int .i64 0, .int .i64 0, .int .u64 0, .int .u64 0, .int .i64 0] _ _ (by rfl) (by rfl) (by rfl) HST.out.row info27) rfl ⟨by rw [HR.out]; rfl, HST.out.bel _ _ HB7.out (Nat.le_refl _)⟩
      · have hEt : (E != 0) = true := by simpa using hE0
        rw [if_neg (fun h => hE0 h.1)] at hr
        have HR := hid hr
        clear hr hE0 EQ
        refine hid ?_
        go_wp2_with (first | (refine wpList_st (by rfl) 29 (.tmp 2) (.tmp 53) (by rfl) w.heap.size #[.int .i64 0, .int .i64 0, .int .u64 0, .int .u64 0, .int .u32 0, .int .i64 0, .int .i64 0, .int .i64 0, .int .u64 0, .int .u64 0, .int .i64 0] (by rfl) (by rfl) 29 #[.int .i64 0, .int .i64 0, .int .u64 0, .int .u64 0, .int .u32 0, .int .i64 0, .int .i64 0, .int .i64 0, .int .u64 0, .int .u64 0, .int .i64 0] HZ7 info27 rfl (by simp [Value.oneCell']) ?_; intro w8 hst; have HST := hid hst; clear hst; refine Hid.out ?_))
        refine hid ?_
        go_wp2
        exact bodyPost_ret (res27t Tryz.f5 2 3 4 Tryz.results5 _ _ w.heap.size #[.int .i64 0, .int .i64 0, .int .u64 0, .int .u64 0, .int .u32 0, .int .i64 0, .int .i64 0, .int .i64 0, .int .u64 0, .int .u64 0, .int .i64 0] _ _ (by rfl) (by rfl) (by rfl) HST.out.row info27) rfl ⟨by rw [HR.out]; rfl, HST.out.bel _ _ HB7.out (Nat.le_refl _)⟩
  · have hr : rlR l = (zeroI, n, er) := by
      unfold rlR
      rw [hd]
      simp only [ne_eq]
      rw [if_pos he]
    rw [hr]
    simp only
    rw [HZ.out]
    have hne : (er != 0) = true := by simpa using he
    clear hr HD hd he
    go_enter Tryz.func5, Tryz.ntmps5
    go_wp2_with (first | (go_at_call 10; refine (DE.out _ (HS.out.on HB0.out) (HM.out.on HB0.out)).mono ?_; rintro e w2 ⟨v, rfl, hO⟩; have HO := hid hO; clear hO; refine Hid.out ?_))
    have HI2 := row_on HI.out HO.out.2.1
    have HB2 := hid (btr HB0.out HO.out.2.1)
    clear HO DE HI HB0
    refine hid ?_
    go_wp2_with (first | (refine wpList_st (by rfl) 29 (.tmp 2) (.tmp 23) (by rfl) w.heap.size #[.int .i64 0, .int .i64 0, .int .u64 0, .int .u64 0, .int .u32 0, .int .i64 0, .int .i64 0, .int .i64 0, .int .u64 0, .int .u64 0, .int .i64 0] (by rfl) (by rfl) 29 #[.int .i64 0, .int .i64 0, .int .u64 0, .int .u64 0, .int .u32 0, .int .i64 0, .int .i64 0, .int .i64 0, .int .u64 0, .int .u64 0, .int .i64 0] HI2 info27 rfl (by simp [Value.oneCell']) ?_; intro w5 hst; have HST := hid hst; clear hst; refine Hid.out ?_))
    refine hid ?_
    go_wp2
    exact bodyPost_ret (res27t Tryz.f5 2 3 4 Tryz.results5 _ _ w.heap.size #[.int .i64 0, .int .i64 0, .int .u64 0, .int .u64 0, .int .u32 0, .int .i64 0, .int .i64 0, .int .i64 0, .int .u64 0, .int .u64 0, .int .i64 0] _ _ (by rfl) (by rfl) (by rfl) HST.out.row info27) rfl ⟨by simp, HST.out.bel _ _ HB2.out (Nat.le_refl _)⟩

set_option maxHeartbeats 4000000 in
set_option maxRecDepth 100000 in
theorem readE_any (l : List UInt8) (q : Option Addr) (cap : Nat) (w : World) (hl : l.length < 4611686018427387904) (hcap : l.length ≤ cap) (hcm : cap < 9223372036854775808) (hS : Sb w q l) (hM : LayM w) :
    Calls Tryz.prog 7 #[.slice q l.length cap] w fun e w' => e = .returned (.tuple #[.agg (reR l).1.v, .int .i64 ((reR l).2.1 : Nat), .int .i64 (reR l).2.2]) ∧ Below w.heap.size w w' := by
  have HS := hid hS
  have HM := hid hM
  have HI := hid (heap_alloc_new w (.cells zeroE.v 34))
  have HB0 := hid (ball w (.cells zeroE.v 34))
  have DE := hid (fun w hS hM => decode_any l q cap w hl hcap hcm hS hM)
  obtain ⟨kd, tg, n, er, hd⟩ : ∃ a b c d, decR l = (a, b, c, d) := ⟨_, _, _, _, rfl⟩
  have HD := hid hd
  rw [hd] at DE
  simp only at DE
  have HZ := hid (show zeroE.v = #[.int .u64 0, .int .i64 0, .int .u64 0, .int .u64 0, .int .u64 0, .int .u32 0, .int .i64 0, .int .i64 0, .int .i64 0, .int .u64 0, .int .u64 0, .int .i64 0, .int .i64 0] from rfl)
  rw [HZ.out] at HI HB0
  clear hS hM
  by_cases he : er = 0
  · subst he
    obtain ⟨n1, n2, n3, n4⟩ := decR_back hd
    obtain ⟨s1, s2, s3⟩ := line_small n3
    have HS3 := hid s3
    clear hd n3 n4 s3
    cases hk : evK kd tg with
    | none =>
      have hr : reR l = (zeroE, 0, 41) := by
        unfold reR
        rw [HD.out]
        simp only [ne_eq, not_true_eq_false, if_false, hk]
      rw [hr]
      simp only
      rw [HZ.out]
      have IK := hid (fun q cap w hc hm hT hE => eventkind_any kd tg q cap w (by omega) hc hm (fun x hx => by have := HS3.out x hx; omega) hT hE)
      rw [hk] at IK
      clear hr HD
      go_enter Tryz.func7, Tryz.ntmps7
      go_wp2_with (first | (go_at_call 10; refine (DE.out _ (HS.out.on HB0.out) (HM.out.on HB0.out)).mono ?_; rintro e w2 ⟨v, rfl, hO⟩; have HO := hid hO; clear hO; refine Hid.out ?_))
      have HI2 := hid (row_on HI.out HO.out.2.1)
      have HB2 := hid (btr HB0.out HO.out.2.1)
      obtain ⟨ql, cl, rfl, hTl, hcl, hml⟩ := HO.out.form
      have HT := hid hTl
      have HE2 := hid (HM.out.on HB2.out).laye
      clear hTl HO DE HI HB0
      refine hid ?_
      go_wp2_with (first | (go_at_call 23; refine (IK.out _ _ _ hcl hml HT.out HE2.out).mono ?_; rintro e wk ⟨rfl, hbk⟩; have HI2K := hid (row_on HI2.out hbk); have HBK := hid (btr HB2.out hbk); have HTK2 := hid (HT.out.on hbk); have HEK := hid (HE2.out.on hbk); clear hbk; refine Hid.out ?_))
      refine hid ?_
      have HI3 := HI2K.out
      go_wp2_with (first | (refine wpList_st (by rfl) 34 (.tmp 2) (.tmp 34) (by rfl) w.heap.size #[.int .u64 0, .int .i64 0, .int .u64 0, .int .u64 0, .int .u64 0, .int .u32 0, .int .i64 0, .int .i64 0, .int .i64 0, .int .u64 0, .int .u64 0, .int .i64 0, .int .i64 0] (by rfl) (by rfl) 34 #[.int .u64 0, .int .i64 0, .int .u64 0, .int .u64 0, .int .u64 0, .int .u32 0, .int .i64 0, .int .i64 0, .int .i64 0, .int .u64 0, .int .u64 0, .int .i64 0, .int .i64 0] HI3 info39 rfl (by simp [Value.oneCell']) ?_; intro w5 hst; have HST := hid hst; clear hst; refine Hid.out ?_))
      refine hid ?_
      go_wp2
      exact bodyPost_ret (res30t Tryz.f7 2 3 4 Tryz.results7 _ _ w.heap.size #[.int .u64 0, .int .i64 0, .int .u64 0, .int .u64 0, .int .u64 0, .int .u32 0, .int .i64 0, .int .i64 0, .int .i64 0, .int .u64 0, .int .u64 0, .int .i64 0, .int .i64 0] _ _ (by rfl) (by rfl) (by rfl) HST.out.row info39) rfl ⟨by simp, HST.out.bel _ _ HBK.out (Nat.le_refl _)⟩
    | some k =>
      have hkk := evK_rg hk
      have IK := hid (fun q cap w hc hm hT hE => eventkind_any kd tg q cap w (by omega) hc hm (fun x hx => by have := HS3.out x hx; omega) hT hE)
      rw [hk] at IK
      have RT := hid (fun q cap w hT hE => readtags_any k tg q cap w (by omega) (fun x hx => by have := HS3.out x hx; omega) hT hE)
      have IN := hid (fun b n w hF => event_any k b n (only (tagsL k) (nmF tg)) w (by omega) (by omega) hF)
      rw [evtV_rl k tg hkk.1 hkk.2.1] at IN
      have LI := hid (fun w hL => lineE_any (rlE k tg) (rlE_ok k tg).1 w hL)
      obtain ⟨Y, hY⟩ : ∃ y, rlE k tg = y := ⟨_, rfl⟩
      rw [hY] at IN LI
      have htl : (l.take n).length = n := by simp; omega
      have EQ := hid (fun q1 q2 c1 c2 w h1 h2 => equal_any (lnE Y) (l.take n) q1 q2 c1 c2 w h1 h2)
      rw [htl] at EQ
      have hr : reR l = if Y.e = 0 ∧ lnE Y = l.take n then (Y, n, 0) else (zeroE, 0, 40) := by
        unfold reR
        rw [HD.out]
        simp only [ne_eq, not_true_eq_false, if_false, hk]
        rw [hY]
      obtain ⟨OUT, hO⟩ : ∃ y, lnE Y = y := ⟨_, rfl⟩
      rw [hO] at EQ LI hr
      obtain ⟨E, hE⟩ : ∃ y, Y.e = y := ⟨_, rfl⟩
      rw [hE] at LI hr
      have HTK := hid (fun (w' : World) (hb : Below w.heap.size w w') => ((HS.out.on hb).take n))
      obtain ⟨bq, oq, rfl, _⟩ := HS.out 0 (by omega)
      have g3 : (0 : Int) ≤ (n : Int) := by omega
      have g4 : (n : Int) ≤ (cap : Int) := by omega
      clear hk hY HD hO hE hkk
      unfold Evt.v eV at *
      go_enter Tryz.func7, Tryz.ntmps7
      go_wp2_with (first | (go_at_call 10; refine (DE.out _ (HS.out.on HB0.out) (HM.out.on HB0.out)).mono ?_; rintro e w2 ⟨v, rfl, hO⟩; have HO := hid hO; clear hO; refine Hid.out ?_))
      have HI2 := hid (row_on HI.out HO.out.2.1)
      have HB2 := hid (btr HB0.out HO.out.2.1)
      obtain ⟨ql, cl, rfl, hTl, hcl, hml⟩ := HO.out.form
      have HT := hid hTl
      have HE2 := hid (HM.out.on HB2.out).laye
      clear hTl HO DE HI HB0
      refine hid ?_
      go_wp2_with (first | (go_at_call 23; refine (IK.out _ _ _ hcl hml HT.out HE2.out).mono ?_; rintro e wk ⟨rfl, hbk⟩; have HI2K := hid (row_on HI2.out hbk); have HBK := hid (btr HB2.out hbk); have HTK2 := hid (HT.out.on hbk); have HEK := hid (HE2.out.on hbk); clear hbk; refine Hid.out ?_))
      refine hid ?_
      go_wp2_with (first | (go_at_call 12; refine (RT.out _ _ _ HTK2.out HEK.out).mono ?_; rintro e w3 ⟨b, m, rfl, _, _, hF, hb⟩; have HF := hid hF; have HI4 := hid (row_on HI2K.out hb); have HB3 := hid (btr HBK.out hb); clear hF hb; refine Hid.out ?_))
      refine hid ?_
      go_wp2_with (first | (go_at_call 24; refine (IN.out _ _ _ HF.out).mono ?_; rintro e w4 ⟨rfl, hb⟩; have HI5 := hid (row_on HI4.out hb); have HB4 := hid (btr HB3.out hb); clear hb; refine Hid.out ?_))
      have HX5 := hid (heap_alloc_new w4 (.cells #[.int .u64 Y.sq, .int .i64 Y.kd, .int .u64 Y.id, .int .u64 Y.ot, .int .u64 Y.tg, .int .u32 Y.me, .int .i64 Y.si, .int .i64 Y.ty, .int .i64 Y.pr, .int .u64 Y.qt, .int .u64 Y.pe, .int .i64 Y.re, .int .i64 Y.co] 34))
      have HI6 := hid (row_on HI5.out (ball w4 (.cells #[.int .u64 Y.sq, .int .i64 Y.kd, .int .u64 Y.id, .int .u64 Y.ot, .int .u64 Y.tg, .int .u32 Y.me, .int .i64 Y.si, .int .i64 Y.ty, .int .i64 Y.pr, .int .u64 Y.qt, .int .u64 Y.pe, .int .i64 Y.re, .int .i64 Y.co] 34)))
      have HB5 := hid (btr HB4.out (ball w4 (.cells #[.int .u64 Y.sq, .int .i64 Y.kd, .int .u64 Y.id, .int .u64 Y.ot, .int .u64 Y.tg, .int .u32 Y.me, .int .i64 Y.si, .int .i64 Y.ty, .int .i64 Y.pr, .int .u64 Y.qt, .int .u64 Y.pe, .int .i64 Y.re, .int .i64 Y.co] 34)))
      clear HI4 HI5 HB3 HB4 HF RT IN
      refine hid ?_
      go_wp2_with (first | (go_at_call 25; refine (LI.out _ (HM.out.on HB5.out).laye.lay).mono ?_; rintro e w6 ⟨v6, rfl, hO6, hn6⟩; have HO6 := hid hO6; have HN6 := hid hn6; clear hO6 hn6; refine Hid.out ?_))
      have HX7 := hid (row_on HX5.out HO6.out.2.1)
      have HI7 := hid (row_on HI6.out HO6.out.2.1)
      have HB7 := hid (btr HB5.out HO6.out.2.1)
      obtain ⟨q6, c6, rfl, hS6⟩ := HO6.out.form
      have HS6 := hid hS6
      have HZ7 := HI7.out
      clear hS6 HO6 HX5 HI6 HB5 LI
      by_cases hE0 : E = 0
      · subst hE0
        have EQ2 := hid (fun w h1 h2 => EQ.out q6 (some ⟨bq, oq, none⟩) c6 cap w h1 h2)
        by_cases hq : OUT = l.take n
        · have hqt : (OUT == l.take n) = true := by simpa using hq
          rw [hqt] at EQ2
          rw [if_pos ⟨rfl, hq⟩] at hr
          have HR := hid hr
          clear hr hq hqt EQ
          refine hid ?_
          go_wp2_with (first | (go_at_call 15; refine (EQ2.out _ HS6.out (HTK.out _ HB7.out)).mono ?_; rintro e w' ⟨rfl, rfl⟩) | (refine wpList_load_row (by rfl) 34 (.tmp 11) (by rfl) w4.heap.size (by rfl) 34 #[.int .u64 Y.sq, .int .i64 Y.kd, .int .u64 Y.id, .int .u64 Y.ot, .int .u64 Y.tg, .int .u32 Y.me, .int .i64 Y.si, .int .i64 Y.ty, .int .i64 Y.pr, .int .u64 Y.qt, .int .u64 Y.pe, .int .i64 Y.re, .int .i64 Y.co] (0, 0) _ HX7.out Tryz.underlying34 rfl info39 ?_) | (refine wpList_st (by rfl) 34 (.tmp 2) (.tmp 55) (by rfl) w.heap.size #[.int .u64 Y.sq, .int .i64 Y.kd, .int .u64 Y.id, .int .u64 Y.ot, .int .u64 Y.tg, .int .u32 Y.me, .int .i64 Y.si, .int .i64 Y.ty, .int .i64 Y.pr, .int .u64 Y.qt, .int .u64 Y.pe, .int .i64 Y.re, .int .i64 Y.co] (by rfl) (by rfl) 34 #[.int .u64 0, .int .i64 0, .int .u64 0, .int .u64 0, .int .u64 0, .int .u32 0, .int .i64 0, .int .i64 0, .int .i64 0, .int .u64 0, .int .u64 0, .int .i64 0, .int .i64 0] HZ7 info39 rfl (by simp [Value.oneCell']) ?_; intro w8 hst; have HST := hid hst; clear hst; refine Hid.out ?_))
          refine hid ?_
          go_wp2
          exact bodyPost_ret (res30t Tryz.f7 2 3 4 Tryz.results7 _ _ w.heap.size #[.int .u64 Y.sq, .int .i64 Y.kd, .int .u64 Y.id, .int .u64 Y.ot, .int .u64 Y.tg, .int .u32 Y.me, .int .i64 Y.si, .int .i64 Y.ty, .int .i64 Y.pr, .int .u64 Y.qt, .int .u64 Y.pe, .int .i64 Y.re, .int .i64 Y.co] _ _ (by rfl) (by rfl) (by rfl) HST.out.row info39) rfl ⟨by rw [HR.out]; rfl, HST.out.bel _ _ HB7.out (Nat.le_refl _)⟩
        · have hqt : (OUT == l.take n) = false := by simpa using hq
          rw [hqt] at EQ2
          rw [if_neg (fun h => hq h.2)] at hr
          have HR := hid hr
          clear hr hq hqt EQ
          refine hid ?_
          go_wp2_with (first | (go_at_call 15; refine (EQ2.out _ HS6.out (HTK.out _ HB7.out)).mono ?_; rintro e w' ⟨rfl, rfl⟩) | (refine wpList_st (by rfl) 34 (.tmp 2) (.tmp 54) (by rfl) w.heap.size #[.int .u64 0, .int .i64 0, .int .u64 0, .int .u64 0, .int .u64 0, .int .u32 0, .int .i64 0, .int .i64 0, .int .i64 0, .int .u64 0, .int .u64 0, .int .i64 0, .int .i64 0] (by rfl) (by rfl) 34 #[.int .u64 0, .int .i64 0, .int .u64 0, .int .u64 0, .int .u64 0, .int .u32 0, .int .i64 0, .int .i64 0, .int .i64 0, .int .u64 0, .int .u64 0, .int .i64 0, .int .i64 0] HZ7 info39 rfl (by simp [Value.oneCell']) ?_; intro w8 hst; have HST := hid hst; clear hst; refine Hid.out ?_))
          refine hid ?_
          go_wp2
          exact bodyPost_ret (res30t Tryz.f7 2 3 4 Tryz.results7 _ _ w.heap.size #[.int .u64 0, .int .i64 0, .int .u64 0, .int .u64 0, .int .u64 0, .int .u32 0, .int .i64 0, .int .i64 0, .int .i64 0, .int .u64 0, .int .u64 0, .int .i64 0, .int .i64 0] _ _ (by rfl) (by rfl) (by rfl) HST.out.row info39) rfl ⟨by rw [HR.out]; rfl, HST.out.bel _ _ HB7.out (Nat.le_refl _)⟩
      · have hEt : (E != 0) = true := by simpa using hE0
        rw [if_neg (fun h => hE0 h.1)] at hr
        have HR := hid hr
        clear hr hE0 EQ
        refine hid ?_
        go_wp2_with (first | (refine wpList_st (by rfl) 34 (.tmp 2) (.tmp 54) (by rfl) w.heap.size #[.int .u64 0, .int .i64 0, .int .u64 0, .int .u64 0, .int .u64 0, .int .u32 0, .int .i64 0, .int .i64 0, .int .i64 0, .int .u64 0, .int .u64 0, .int .i64 0, .int .i64 0] (by rfl) (by rfl) 34 #[.int .u64 0, .int .i64 0, .int .u64 0, .int .u64 0, .int .u64 0, .int .u32 0, .int .i64 0, .int .i64 0, .int .i64 0, .int .u64 0, .int .u64 0, .int .i64 0, .int .i64 0] HZ7 info39 rfl (by simp [Value.oneCell']) ?_; intro w8 hst; have HST := hid hst; clear hst; refine Hid.out ?_))
        refine hid ?_
        go_wp2
        exact bodyPost_ret (res30t Tryz.f7 2 3 4 Tryz.results7 _ _ w.heap.size #[.int .u64 0, .int .i64 0, .int .u64 0, .int .u64 0, .int .u64 0, .int .u32 0, .int .i64 0, .int .i64 0, .int .i64 0, .int .u64 0, .int .u64 0, .int .i64 0, .int .i64 0] _ _ (by rfl) (by rfl) (by rfl) HST.out.row info39) rfl ⟨by rw [HR.out]; rfl, HST.out.bel _ _ HB7.out (Nat.le_refl _)⟩
  · have hr : reR l = (zeroE, n, er) := by
      unfold reR
      rw [hd]
      simp only [ne_eq]
      rw [if_pos he]
    rw [hr]
    simp only
    rw [HZ.out]
    have hne : (er != 0) = true := by simpa using he
    clear hr HD hd he
    go_enter Tryz.func7, Tryz.ntmps7
    go_wp2_with (first | (go_at_call 10; refine (DE.out _ (HS.out.on HB0.out) (HM.out.on HB0.out)).mono ?_; rintro e w2 ⟨v, rfl, hO⟩; have HO := hid hO; clear hO; refine Hid.out ?_))
    have HI2 := row_on HI.out HO.out.2.1
    have HB2 := hid (btr HB0.out HO.out.2.1)
    clear HO DE HI HB0
    refine hid ?_
    go_wp2_with (first | (refine wpList_st (by rfl) 34 (.tmp 2) (.tmp 23) (by rfl) w.heap.size #[.int .u64 0, .int .i64 0, .int .u64 0, .int .u64 0, .int .u64 0, .int .u32 0, .int .i64 0, .int .i64 0, .int .i64 0, .int .u64 0, .int .u64 0, .int .i64 0, .int .i64 0] (by rfl) (by rfl) 34 #[.int .u64 0, .int .i64 0, .int .u64 0, .int .u64 0, .int .u64 0, .int .u32 0, .int .i64 0, .int .i64 0, .int .i64 0, .int .u64 0, .int .u64 0, .int .i64 0, .int .i64 0] HI2 info39 rfl (by simp [Value.oneCell']) ?_; intro w5 hst; have HST := hid hst; clear hst; refine Hid.out ?_))
    refine hid ?_
    go_wp2
    exact bodyPost_ret (res30t Tryz.f7 2 3 4 Tryz.results7 _ _ w.heap.size #[.int .u64 0, .int .i64 0, .int .u64 0, .int .u64 0, .int .u64 0, .int .u32 0, .int .i64 0, .int .i64 0, .int .i64 0, .int .u64 0, .int .u64 0, .int .i64 0, .int .i64 0] _ _ (by rfl) (by rfl) (by rfl) HST.out.row info39) rfl ⟨by simp, HST.out.bel _ _ HB2.out (Nat.le_refl _)⟩
end Go.Proofs.YtjgjoohdocjpkaaGreatDoor.Msg
namespace Go.Proofs.YtjgjoohdocjpkaaGreatDoor.Msg
open Go.RowKit Go.Maps Go.Deep Go.Lib
set_option linter.unusedVariables false
set_option linter.unusedSimpArgs false
theorem step_own_tag {ops : Array Oper} {o : Oper} {a : Act} {K : Act → World → Prop} {Q : Exit → Act → World → Prop} {E : Prop} (hgd : o.guard = none) (sl x : Operand)
    (ho : o.op = .call { callee := .builtin .append, args := #[sl, x], argTypes := #[39, 39] }) (B : Nat) (v : Value) (l : List (Int × List UInt8)) (hs : a.eval sl = v) (W0 w0 : World) (t : Int) (s : List UInt8) (hb0 : OwnT B W0 w0 v l) (hx : a.eval x = .slice (some ⟨w0.heap.size, 0, none⟩) 1 1) (hlen : l.length ≤ 1000)
    (h : ∀ v' w', OwnT B W0 w' v' (l ++ [(t, s)]) → K (a.put o.dst v') w') : if Region.wanted o (yielded ops a.tmps) = true then Oper.wp Tryz.prog o a (w0.alloc (.cells #[.int .i64 t, .string ⟨s.toArray⟩] 65)) K Q else E := by
  have hw : Region.wanted o (yielded ops a.tmps) = true := by simp [Region.wanted, hgd]
  rw [if_pos hw]
  obtain ⟨i0, hi, hz0, hz1, hz2⟩ := info_parts info28all
  have hb' : OwnT B W0 (w0.alloc (.cells #[.int .i64 t, .string ⟨s.toArray⟩] 65)) v l := hb0.on (ball _ _)
  refine wp_append_own _ sl x 39 ho B 65 i0 _ 2 24 Tryz.underlying39 hi hz0 hz1 hz2 rfl (by decide) v l.length _ hs hb'.1 ⟨w0.heap.size, 0, none⟩ 1 1 (tv [(t, s)]) hx rfl ?_ (tv_one _) (by unfold maxLen; omega) (by omega) hb'.2.2 ?_
  · intro j u hj
    rw [Addr.add_mid, Nat.zero_add, World.cell?_alloc_new]
    simpa [tv] using hj
  · intro v' w' ho' hg _
    refine h v' w' ⟨?_, hb'.2.1.grown hg hb'.2.2 (fun k hk => (hb'.1.lt k hk).1), Nat.le_trans hb'.2.2 hg.size⟩
    rw [tv_append, List.length_append]
    exact ho'
theorem info78 : (Tryz.prog.info? 51).map (·.size) = some 5 := by kernel_rfl
theorem letters_any (w : World) : Calls Tryz.prog 17 #[] w fun e w' => e = .returned (.agg #[.string ⟨#[]⟩, .string ⟨#[68]⟩, .string ⟨#[70]⟩, .string ⟨#[71]⟩, .string ⟨#[85, 69]⟩]) ∧ Below w.heap.size w w' := by
  go_enter Tryz.func17, Tryz.ntmps17
  go_wp2
  exact bodyPost_ret (results_cell_row (fn := Tryz.f17) Tryz.results17 _ _ w.heap.size 51 #[.string ⟨#[]⟩, .string ⟨#[68]⟩, .string ⟨#[70]⟩, .string ⟨#[71]⟩, .string ⟨#[85, 69]⟩] (0, 0) _ (by rfl) (heap_alloc_new _ _) Tryz.underlying51 rfl info78) rfl ⟨rfl, ball _ _⟩
theorem index5 (a : Array Value) (i : Nat) (v : Value) (w : World) (hi : i < 5) (hv : a[i]? = some v) : (Instr.index 51 (.agg a) (.int .i64 (i : Int))).run Tryz.prog w = .ok v w := by
  have u78 := Tryz.underlying51
  have a9 := Tryz.isAgg9
  have z9 := Tryz.sizeOf9
  simp [Instr.index, asIntOf, run_underlying u78, part, a9, z9, hv, hi, Sem.run_bind, Result.andThen]
theorem letter_at (k : Int) (h1 : 1 ≤ k) (h4 : k ≤ 4) (w : World) : (Instr.index 51 (.agg #[.string ⟨#[]⟩, .string ⟨#[68]⟩, .string ⟨#[70]⟩, .string ⟨#[71]⟩, .string ⟨#[85, 69]⟩]) (.int .i64 k)).run Tryz.prog w = .ok (.string ⟨(lineK k).toArray⟩) w := by
  obtain rfl | rfl | rfl | rfl : k = 1 ∨ k = 2 ∨ k = 3 ∨ k = 4 := by omega
  · exact index5 _ 1 _ w (by decide) rfl
  · exact index5 _ 2 _ w (by decide) rfl
  · exact index5 _ 3 _ w (by decide) rfl
  · exact index5 _ 4 _ w (by decide) rfl
theorem rdec_call (x : Int) (hx : Wd x) (w : World) : Calls Tryz.prog 26 #[.int .u64 x] w fun e w' => e = .returned (.string ⟨(decDigits x.toNat).toArray⟩) ∧ Below w.heap.size w w' := by
  unfold Wd at hx
  have h := rdecimal_any x.toNat (by omega) w
  rw [show ((x.toNat : Nat) : Int) = x by omega] at h
  exact h
theorem lt_only (k : Int) (f : Int → Int) : ltL k (only (tagsL k) f) (tagsL k) = ltL k f (tagsL k) := by
  have h : ∀ L : List Int, (∀ t ∈ L, t ∈ tagsL k) → L.flatMap (tagT k (only (tagsL k) f)) = L.flatMap (tagT k f) := by
    intro L
    induction L with
    | nil => intro _; rfl
    | cons t L ih =>
      intro h
      rw [List.flatMap_cons, List.flatMap_cons, ih (fun z hz => h z (by simp [hz]))]
      congr 1
      unfold tagT only
      rw [if_pos (h t (by simp))]
  exact h _ (fun t ht => ht)
theorem f_wd (x : Inp) (hx : x.Ok) : ∀ t, Wd (x.f t) := by
  obtain ⟨h1, h2, h3, h4, h5⟩ := hx
  unfold Inp.f inF
  exact upd_wd (upd_wd (upd_wd (upd_wd (upd_wd (upd_wd (upd_wd (upd_wd (upd_wd (fun _ => by simp [Wd]) _ h1) _ h2) _ (me_wd h3)) _ (u64_wd _)) _ (u64_wd _)) _ (u64_wd _)) _ h4) _ h5) _ (u64_wd _)
theorem fE_wd (x : Evt) (hx : x.Ok) : ∀ t, Wd (x.f t) := by
  obtain ⟨h0, h1, h2, h3, h4, h5, h6⟩ := hx
  unfold Evt.f evF
  exact upd_wd (upd_wd (upd_wd (upd_wd (upd_wd (upd_wd (upd_wd (upd_wd (upd_wd (upd_wd (upd_wd (upd_wd (fun _ => by simp [Wd]) _ h0) _ h1) _ h2) _ h3) _ (me_wd h4)) _ (u64_wd _)) _ (u64_wd _)) _ (u64_wd _)) _ h5) _ h6) _ (u64_wd _)) _ (u64_wd _)
theorem Ans.down {w0 w w' : World} {v : Value} {l : List UInt8} (h : Ans w w' v l) (hb : Below w0.heap.size w0 w) : Ans w0 w' v l := by
  obtain ⟨q, cap, e, hs, ha, hb2⟩ := h
  exact ⟨q, cap, e, hs, fun a h => Nat.le_trans hb.size (ha a h), btr hb hb2⟩
theorem ans_none {w w' : World} (h : Below w.heap.size w w') : Ans w w' (.slice none 0 0) [] := ⟨none, 0, rfl, (fun i hi => by simp at hi), (fun a e => by cases e), h⟩
theorem tag_first {k : Int} (h1 : 65 ≤ k) (h2 : k ≤ 69) : ∀ j (hj : j < (tagsL k).length), ((tagsL k)[j] = 34 ↔ j = 0) := by
  obtain rfl | rfl | rfl | rfl | rfl : k = 65 ∨ k = 66 ∨ k = 67 ∨ k = 68 ∨ k = 69 := by omega
  all_goals decide

set_option maxHeartbeats 8000000 in
set_option maxRecDepth 100000 in
theorem rline_any (x : Inp) (hx : x.Ok) (hr : x.Rg) (w : World) :
    Calls Tryz.prog 22 #[.agg x.v] w fun e w' => ∃ v, e = .returned (.tuple #[v, .int .i64 x.e]) ∧ Ans w w' v (lnB x) := by
  by_cases h : x.e = 0
  · obtain ⟨h0, ht⟩ := e_zero x h
    obtain ⟨h1, h4⟩ := k_range x h0
    have hkd := kd_inp x h
    have VA := hid (fun w => values_ok x hx hr w h)
    have NA := hid (fun w => name_any x w)
    have FA := hid (fun w => fields_any x.k h1 h4 w)
    have LE := hid (fun w => letters_any w)
    have IX := hid (fun w => letter_at x.k h1 h4 w)
    have H34 := hid (show (34 : Int) ∉ tagsL x.k from fun hm => by have := tag34 hkd hm; omega)
    have hln : lnB x = lineB (lineK x.k) (ltL x.k x.f (tagsL x.k)) := by unfold lnB; rw [if_pos h]; unfold lnT Inp.F; rw [lt_only]
    have HE := hid (enc_line hkd x.f (f_wd x hx))
    have EN := hid (fun q cap w hc hm hT => rencode_any (lineK x.k) (ltL x.k x.f (tagsL x.k)) q cap w (by have := lineK_len x.k; omega) (fun z hz => by have := (lt_vals hkd x.f (f_wd x hx) z hz).2; omega) (by have := (lt_tags hkd x.f).2.1; omega) hc hm hT)
    have hEB : encB (lineK x.k) (ltL x.k x.f (tagsL x.k)) = lineB (lineK x.k) (ltL x.k x.f (tagsL x.k)) := by unfold encB; rw [if_pos HE.out]
    rw [HE.out, hEB] at EN
    rw [h, hln]
    have DC := hid (fun t w => rdec_call (x.f t) (f_wd x hx t) w)
    
    obtain ⟨OUT, hO⟩ : ∃ y, lineB (lineK x.k) (ltL x.k x.f (tagsL x.k)) = y := ⟨_, rfl⟩
    rw [hO] at EN ⊢
    have RX0 := hid (heap_alloc_new w (.cells x.v 29))
    have HB0 := hid (ball w (.cells x.v 29))
    have hlen := tags_len x.k
    have HIN := hid (tags_in x.k)
    obtain ⟨k, hk⟩ : ∃ k, x.k = k := ⟨_, rfl⟩
    unfold FldP at FA
    rw [hk] at VA NA FA EN IX hlen HIN H34
    obtain ⟨KL, hKL⟩ : ∃ y, lineK k = y := ⟨_, rfl⟩
    rw [hKL] at EN IX
    obtain ⟨L, hL⟩ : ∃ l, tagsL k = l := ⟨_, rfl⟩
    rw [hL] at VA FA EN hlen HIN H34
    obtain ⟨F, hF⟩ : ∃ y, x.f = y := ⟨_, rfl⟩
    rw [hF] at VA EN DC
    clear hF hL hKL hk hO hEB HE hln h0 ht h1 h4 hkd h hx hr
    unfold Inp.v iV at *
    go_enter Tryz.func22, Tryz.ntmps22
    go_wp2_with (first | (go_at_call 42; refine (VA.out _).mono ?_; rintro e w2 ⟨p, cp, rfl, hs, hb⟩; have RX2 := hid (row_on RX0.out hb); have HB2 := hid (btr HB0.out hb); have HU2 := hid hs; clear hb hs; refine Hid.out ?_))
    clear RX0 HB0 VA
    have HX2 := RX2.out
    obtain ⟨c0, c1, c2, c3, c4, c5, c6, c7, c8, c9, c10⟩ := cells_I RX2.out
    refine hid ?_
    go_wp2_with (first | (go_at_call 43; refine (NA.out _).mono ?_; rintro e w3 ⟨rfl, hb⟩; have RX3 := hid (row_on RX2.out hb); have HB3 := hid (btr HB2.out hb); have HU3 := hid (HU2.out.on hb); clear hb; refine Hid.out ?_))
    clear c0 c1 c2 c3 c4 c5 c6 c7 c8 c9 c10 RX2 HB2 HU2 HX2
    refine hid ?_
    go_wp2_with (first | (go_at_call 19; refine (FA.out _).mono ?_; rintro e w4 ⟨q, cap, rfl, hS, hb⟩; have RX4 := hid (row_on RX3.out hb); have HB4 := hid (btr HB3.out hb); have HU4 := hid (HU3.out.on hb); have HS4 := hid hS; clear hb hS; refine Hid.out ?_))
    clear RX3 HB3 HU3 FA
    refine hid ?_
    go_wp2
    go_loopw [7, 8] (fun lv iv wr => ∃ j : Nat, j ≤ L.length ∧ iv = .int .i64 j ∧ Hid (OwnT w4.heap.size w4 wr lv (ltL k F (L.take j)))) (fun _ iv _ => L.length - (RowKit.intOf iv).toNat)
    case atStart => exact ⟨0, Nat.zero_le _, rfl, hid (by simpa [ltL] using ownT_nil w4)⟩
    case round =>
      obtain ⟨j, hj, rfl, HO⟩ := hrel
      by_cases hjl : j < L.length
      · have hjl' : (j : Int) < (L.length : Int) := by omega
        have hj0 : (0 : Int) ≤ (j : Int) := by omega
        obtain ⟨fb, fo, rfl, hf0, _, _, _⟩ := HS4.out j hjl
        obtain ⟨ub, uo, rfl, hu0⟩ := HU4.out j (by simpa using hjl)
        rw [List.getElem_map] at hu0
        have hti := HIN.out L[j] (List.getElem_mem hjl)
        have HST := hid (ltL_step k F L j hjl)
        have h34 : L[j] ≠ 34 := fun e => H34.out (by rw [← e]; exact List.getElem_mem hjl)
        obtain ⟨t, ht⟩ : ∃ t, L[j] = t := ⟨_, rfl⟩
        rw [ht] at hf0 hu0 HST hti h34
        have HBr := hid HO.out.2.1
        have cf : wr.cell? ⟨fb, fo + j * 4, none⟩ = some (.int .i64 t) := (HBr.out.cell (cell_lt hf0)).trans hf0
        have cu : wr.cell? ⟨ub, uo + j, none⟩ = some (.int .u64 (F t)) := (HBr.out.cell (cell_lt hu0)).trans hu0
        have CF := hid (fun (w' : World) (hb : Below wr.heap.size wr w') => (hb.cell (cell_lt cf)).trans cf)
        have hll : (ltL k F (L.take j)).length ≤ 900 := by
          have := lt_le k F (L.take j)
          rw [List.length_take] at this
          omega
        have D1 := hid (fun w => DC.out t w)
        have HBD := hid (show Below wr.heap.size wr wr.drew from Below.drew (Below.refl _ _))
        clear ht hf0 hu0
        obtain ⟨l, hl⟩ : ∃ l, ltL k F (L.take j) = l := ⟨_, rfl⟩
        rw [hl] at HO HST hll
        clear hl
        have hs34 : tagT k F t = [(t, decDigits (F t).toNat)] := by unfold tagT; rw [if_neg h34]
        rw [hs34] at HST
        clear hs34 h34
        go_wp2
        go_region_law (first | (go_simp; go_at_call 26; refine (D1.out wr.drew).mono ?_; rintro e w5 ⟨rfl, hb⟩; (have HB5 := hid (btr HBD.out hb)); (have cf5 := CF.out w5 HB5.out); (have HO5 := hid (HO.out.on HB5.out)); clear hb) | (refine step_own_tag (by rfl) (.tmp 26) (.tmp 38) (by rfl) w4.heap.size _ l (by rfl) w4 w5 t (decDigits (F t).toNat) HO5.out (by rfl) (by omega) ?_; intro v6 w6 hO6; have HO6 := hid hO6; clear hO6))
        all_goals
          go_wp2
          go_roundw
          case rel => exact ⟨j + 1, by omega, by go_num, hid (by rw [HST.out]; exact HO6.out)⟩
          case measure => simp [RowKit.intOf]; omega
      · have hje : j = L.length := by omega
        subst hje
        have hfin := HO.out
        rw [List.take_length] at hfin
        have HO2 := hid hfin
        clear hfin HO
        obtain ⟨ql, cl, rfl, hTl, hcl, hml⟩ := HO2.out.form
        have HT := hid hTl
        have HBr := hid (btr HB4.out HO2.out.2.1)
        have RXr := hid (row_on RX4.out HO2.out.2.1)
        clear hTl HO2
        have HBD := hid (show Below wr.heap.size wr wr.drew from Below.drew (Below.refl _ _))
        have RXD := hid (row_on RXr.out HBD.out)
        obtain ⟨c0, c1, c2, c3, c4, c5, c6, c7, c8, c9, c10⟩ := cells_I RXr.out
        have ix := fun w => IX.out w
        go_wp2
        go_region_with (first
          | (go_at_call 17; refine (LE.out wr.drew).mono ?_; rintro e wa ⟨rfl, hb⟩; (have HBa := hid (btr HBD.out hb)); (obtain ⟨d0, d1, d2, d3, d4, d5, d6, d7, d8, d9, d10⟩ := cells_I (row_on RXr.out HBa.out)); clear hb)
          | (go_at_call 43; refine (NA.out wa).mono ?_; rintro e wb ⟨rfl, hb⟩; (have HBb := hid (btr HBa.out hb)); clear hb)
          | (go_at_call 43; refine (NA.out wr.drew).mono ?_; rintro e wa ⟨rfl, hb⟩; (have HBa := hid (btr HBD.out hb)); clear hb)
          | (go_at_call 17; refine (LE.out wa).mono ?_; rintro e wb ⟨rfl, hb⟩; (have HBb := hid (btr HBa.out hb)); clear hb)
          | (go_at_call 44; refine (EN.out _ _ wb hcl hml (HT.out.on HBb.out)).mono ?_; rintro e wc ⟨v, rfl, hA⟩; (have HA := hid hA); clear hA))
        all_goals
          go_wp2
          go_ret2
          exact ⟨v, by first | rfl | simp, Ans.down HA.out (btr HBr.out HBb.out)⟩
  · have VA := hid (fun w => values_bad x hx hr w h)
    have hln : lnB x = [] := by unfold lnB; rw [if_neg h]
    rw [hln]
    obtain ⟨E, hE⟩ : ∃ E, x.e = E := ⟨_, rfl⟩
    rw [hE] at VA h ⊢
    have hne : (E != 0) = true := by simpa using h
    clear h hx hE hr hln
    unfold Inp.v iV at *
    go_enter Tryz.func22, Tryz.ntmps22
    go_wp2_with (first | (go_at_call 42; refine (VA.out _).mono ?_; rintro e w2 ⟨rfl, hb⟩; have HB := hid hb; clear hb; refine Hid.out ?_))
    refine hid ?_
    go_wp2
    go_ret2
    exact ⟨_, by simp, ans_none (btr (ball _ _) HB.out)⟩

set_option maxHeartbeats 8000000 in
set_option maxRecDepth 100000 in
theorem rlineE_any (x : Evt) (hx : x.Ok) (hr : x.Rg) (w : World) :
    Calls Tryz.prog 29 #[.agg x.v] w fun e w' => ∃ v, e = .returned (.tuple #[v, .int .i64 x.e]) ∧ Ans w w' v (lnE x) := by
  by_cases h : x.e = 0
  · obtain ⟨h0, ht⟩ := eE_zero x h
    obtain ⟨h1, h5, hk6⟩ := kE_cases x h0
    obtain ⟨hkd, hk65, hk69, hkk⟩ := kd_evt x h
    have hkl : lineK x.k = [56] := by unfold lineK; rw [if_neg (by omega), if_neg (by omega), if_neg (by omega), if_neg (by omega)]
    have VA := hid (fun w => valuesE_ok x hx hr w h)
    have FA := hid (fun w => told_any x.kd h1 h5 w)
    rw [← hk6] at FA
    have hln : lnE x = lineB (lineK x.k) (ltL x.k x.f (tagsL x.k)) := by unfold lnE; rw [if_pos h]; unfold lnTE Evt.F; rw [lt_only]
    have HE := hid (enc_line hkd x.f (fE_wd x hx))
    have EN := hid (fun q cap w hc hm hT => rencode_any (lineK x.k) (ltL x.k x.f (tagsL x.k)) q cap w (by have := lineK_len x.k; omega) (fun z hz => by have := (lt_vals hkd x.f (fE_wd x hx) z hz).2; omega) (by have := (lt_tags hkd x.f).2.1; omega) hc hm hT)
    have hEB : encB (lineK x.k) (ltL x.k x.f (tagsL x.k)) = lineB (lineK x.k) (ltL x.k x.f (tagsL x.k)) := by unfold encB; rw [if_pos HE.out]
    rw [HE.out, hEB] at EN
    rw [h, hln]
    have DC := hid (fun t w => rdec_call (x.f t) (fE_wd x hx t) w)
    have DK := hid (fun w => rdec_call x.kd (by unfold Wd; omega) w)
    have hd0 : x.kd % 18446744073709551616 = x.kd := by omega
    have H0 := hid (show ∀ j (hj : j < (tagsL x.k).length), ((tagsL x.k)[j] = 34 ↔ j = 0) from tag_first hk65 hk69)
    rw [hkl] at EN ⊢
    obtain ⟨OUT, hO⟩ : ∃ y, lineB ([56]) (ltL x.k x.f (tagsL x.k)) = y := ⟨_, rfl⟩
    rw [hO] at EN ⊢
    have RX0 := hid (heap_alloc_new w (.cells x.v 34))
    have HB0 := hid (ball w (.cells x.v 34))
    have hlen := tags_len x.k
    have HIN := hid (tags_in x.k)
    obtain ⟨k, hk⟩ : ∃ k, x.k = k := ⟨_, rfl⟩
    unfold FldP at FA
    rw [hk] at VA FA EN hlen HIN hkk H0
    obtain ⟨L, hL⟩ : ∃ l, tagsL k = l := ⟨_, rfl⟩
    rw [hL] at VA FA EN hlen HIN
    have H0L := hid (show ∀ j (hj : j < L.length), (L[j] = 34 ↔ j = 0) from by rw [← hL]; exact H0.out)
    obtain ⟨F, hF⟩ : ∃ y, x.f = y := ⟨_, rfl⟩
    rw [hF] at VA EN DC
    clear hF hL hk hO hEB HE hln h0 ht h1 h5 hkd h hx hr hk6 hk65 hk69 hkl H0
    unfold Evt.v eV at *
    go_enter Tryz.func29, Tryz.ntmps29
    go_wp2_with (first | (go_at_call 46; refine (VA.out _).mono ?_; rintro e w2 ⟨p, cp, rfl, hs, hb⟩; have RX2 := hid (row_on RX0.out hb); have HB2 := hid (btr HB0.out hb); have HU2 := hid hs; clear hb hs; refine Hid.out ?_))
    clear RX0 HB0 VA
    have HX2 := RX2.out
    have c1 : w2.cell? ⟨w.heap.size, 1, none⟩ = some (.int .i64 x.kd) := row_cell RX2.out 1
    refine hid ?_
    go_wp2_with (first | (go_at_call 27; refine (FA.out _).mono ?_; rintro e w4 ⟨q, cap, rfl, hS, hb⟩; have RX4 := hid (row_on RX2.out hb); have HB4 := hid (btr HB2.out hb); have HU4 := hid (HU2.out.on hb); have HS4 := hid hS; clear hb hS; refine Hid.out ?_))
    clear RX2 HB2 HU2 FA HX2 c1
    refine hid ?_
    go_wp2
    go_loopw [7, 8] (fun lv iv wr => ∃ j : Nat, j ≤ L.length ∧ iv = .int .i64 j ∧ Hid (OwnT w4.heap.size w4 wr lv (ltL k F (L.take j)))) (fun _ iv _ => L.length - (RowKit.intOf iv).toNat)
    case atStart => exact ⟨0, Nat.zero_le _, rfl, hid (by simpa [ltL] using ownT_nil w4)⟩
    case round =>
      obtain ⟨j, hj, rfl, HO⟩ := hrel
      by_cases hjl : j < L.length
      · have hjl' : (j : Int) < (L.length : Int) := by omega
        have hj0 : (0 : Int) ≤ (j : Int) := by omega
        obtain ⟨fb, fo, rfl, hf0, _, _, _⟩ := HS4.out j hjl
        obtain ⟨ub, uo, rfl, hu0⟩ := HU4.out j (by simpa using hjl)
        rw [List.getElem_map] at hu0
        have hti := HIN.out L[j] (List.getElem_mem hjl)
        have HST := hid (ltL_step k F L j hjl)
        have h0i := H0L.out j hjl
        obtain ⟨t, ht⟩ : ∃ t, L[j] = t := ⟨_, rfl⟩
        rw [ht] at hf0 hu0 HST hti h0i
        have HBr := hid HO.out.2.1
        have cf : wr.cell? ⟨fb, fo + j * 4, none⟩ = some (.int .i64 t) := (HBr.out.cell (cell_lt hf0)).trans hf0
        have cu : wr.cell? ⟨ub, uo + j, none⟩ = some (.int .u64 (F t)) := (HBr.out.cell (cell_lt hu0)).trans hu0
        have CF := hid (fun (w' : World) (hb : Below wr.heap.size wr w') => (hb.cell (cell_lt cf)).trans cf)
        have hll : (ltL k F (L.take j)).length ≤ 900 := by
          have := lt_le k F (L.take j)
          rw [List.length_take] at this
          omega
        have D1 := hid (fun w => DC.out t w)
        have HBD := hid (show Below wr.heap.size wr wr.drew from Below.drew (Below.refl _ _))
        clear ht hf0 hu0
        obtain ⟨l, hl⟩ : ∃ l, ltL k F (L.take j) = l := ⟨_, rfl⟩
        rw [hl] at HO HST hll
        clear hl
        by_cases hz : j = 0
        · subst hz
          have ht34 := h0i.2 rfl
          subst ht34
          have hs34 : tagT k F 34 = [(34, decDigits (F 34).toNat), (150, decDigits x.kd.toNat)] := by unfold tagT; rw [if_pos rfl, hkk]
          rw [hs34] at HST
          simp only [Nat.zero_mul, Nat.add_zero] at cf cu
          have CF := hid (fun (w' : World) (hb : Below wr.heap.size wr w') => (hb.cell (cell_lt cf)).trans cf)
          have hl0 : (0 : Int) < (L.length : Int) := by omega
          clear hs34 h0i
          go_wp2
          go_region_law (first | (go_simp; go_at_call 26; refine (D1.out wr.drew).mono ?_; rintro e w5 ⟨rfl, hb⟩; (have HB5 := hid (btr HBD.out hb)); (have cf5 := CF.out w5 HB5.out); (have HO5 := hid (HO.out.on HB5.out)); clear hb) | (refine step_own_tag (by rfl) (.tmp 26) (.tmp 38) (by rfl) w4.heap.size _ l (by rfl) w4 w5 34 (decDigits (F 34).toNat) HO5.out (by rfl) (by omega) ?_; intro v6 w6 hO6; have HO6 := hid hO6; clear hO6))
          all_goals
            have cx : w6.cell? ⟨w.heap.size, 1, none⟩ = some (.int .i64 x.kd) := row_cell (row_on RX4.out HO6.out.2.1) 1
            go_wp2_with (first | (go_at_call 26; refine (DK.out _).mono ?_; rintro e w7 ⟨rfl, hb⟩; have HO7 := hid (HO6.out.on hb); clear hb; refine Hid.out ?_))
            refine hid ?_
            go_wp2_with (first
              | (at_builtin; refine own_tag (by rfl) (.tmp 42) (.tmp 48) (by rfl) w4.heap.size _ (l ++ [(34, decDigits (F 34).toNat)]) (by rfl) w4 w7 150 (decDigits x.kd.toNat) HO7.out (by rfl) (by simp; omega) ?_; intro v8 w8 hO8; have HO8 := hid hO8; clear hO8; refine Hid.out ?_))
            refine hid ?_
            go_wp2
            go_roundw
            case rel => exact ⟨0 + 1, by omega, by go_num, hid (by rw [HST.out]; simpa using HO8.out)⟩
            case measure => simp [RowKit.intOf]; omega
        · have h34 : ¬ t = 34 := fun e => hz (h0i.1 e)
          have hs34 : tagT k F t = [(t, decDigits (F t).toNat)] := by unfold tagT; rw [if_neg h34]
          rw [hs34] at HST
          have hzf : ((j : Int) == 0) = false := by simp; omega
          clear hs34 h34 h0i hz
          go_wp2
          go_region_law (first | (go_simp; go_at_call 26; refine (D1.out wr.drew).mono ?_; rintro e w5 ⟨rfl, hb⟩; (have HB5 := hid (btr HBD.out hb)); (have cf5 := CF.out w5 HB5.out); (have HO5 := hid (HO.out.on HB5.out)); clear hb) | (refine step_own_tag (by rfl) (.tmp 26) (.tmp 38) (by rfl) w4.heap.size _ l (by rfl) w4 w5 t (decDigits (F t).toNat) HO5.out (by rfl) (by omega) ?_; intro v6 w6 hO6; have HO6 := hid hO6; clear hO6))
          all_goals
            go_wp2
            go_roundw
            case rel => exact ⟨j + 1, by omega, by go_num, hid (by rw [HST.out]; exact HO6.out)⟩
            case measure => simp [RowKit.intOf]; omega
      · have hje : j = L.length := by omega
        subst hje
        have hfin := HO.out
        rw [List.take_length] at hfin
        have HO2 := hid hfin
        clear hfin HO
        obtain ⟨ql, cl, rfl, hTl, hcl, hml⟩ := HO2.out.form
        have HT := hid hTl
        have HBr := hid (btr HB4.out HO2.out.2.1)
        have RXr := hid (row_on RX4.out HO2.out.2.1)
        clear hTl HO2
        go_wp2_with (first | (go_at_call 44; refine (EN.out _ _ _ hcl hml HT.out).mono ?_; rintro e wc ⟨v, rfl, hA⟩; have HA := hid hA; clear hA; refine Hid.out ?_))
        refine hid ?_
        go_wp2
        go_ret2
        exact ⟨v, by first | rfl | simp, Ans.down HA.out HBr.out⟩
  · have VA := hid (fun w => valuesE_bad x hx hr w h)
    have hln : lnE x = [] := by unfold lnE; rw [if_neg h]
    rw [hln]
    obtain ⟨E, hE⟩ : ∃ E, x.e = E := ⟨_, rfl⟩
    rw [hE] at VA h ⊢
    have hne : (E != 0) = true := by simpa using h
    clear h hx hE hr hln
    unfold Evt.v eV at *
    go_enter Tryz.func29, Tryz.ntmps29
    go_wp2_with (first | (go_at_call 46; refine (VA.out _).mono ?_; rintro e w2 ⟨rfl, hb⟩; have HB := hid hb; clear hb; refine Hid.out ?_))
    refine hid ?_
    go_wp2
    go_ret2
    exact ⟨_, by simp, ans_none (btr (ball _ _) HB.out)⟩
end Go.Proofs.YtjgjoohdocjpkaaGreatDoor.Msg
namespace Go.Proofs.YtjgjoohdocjpkaaGreatDoor
open Go.RowKit Go.Deep Go.Lib Go.Shelf Go.Sort
set_option linter.unusedVariables false
theorem info67 : (Tryz.prog.info? 81).map (·.size) = some 6 := by kernel_rfl
theorem row_cell {w : World} {g : Nat} {t : TypeId} {cs : Array Value} (h : w.heap[g]? = some (.cells cs t (0, 0))) (j : Nat) : w.cell? ⟨g, j, none⟩ = cs[j]? := cell_of_row w g j cs t (0, 0) h
theorem row_lt {w : World} {g : Nat} {o : Obj} (h : w.heap[g]? = some o) : g < w.heap.size := by
  rcases Nat.lt_or_ge g w.heap.size with h' | h'
  · exact h'
  · simp [Array.getElem?_eq_none h'] at h
theorem row_on {w w' : World} {g : Nat} {o : Obj} (h : w.heap[g]? = some o) (hb : Below w.heap.size w w') : w'.heap[g]? = some o := by
  rw [hb.block g (row_lt h)]
  exact h
/-- a whole row is written, and nothing else. -/
structure St (w : World) (g : Nat) (t : TypeId) (cs : Array Value) (w' : World) : Prop where
  row : w'.heap[g]? = some (.cells cs t (0, 0))
  oth : ∀ k, k ≠ g → w'.heap[k]? = w.heap[k]?
  siz : w'.heap.size = w.heap.size
  bel : ∀ B W0, Below B W0 w → B ≤ g → Below B W0 w'
theorem wpList_st {ops : Array Oper} {rest : List Oper} {o : Oper} {a : Act} {w : World} {Q : Exit → Act → World → Prop} (hgd : o.guard = none) (ty : TypeId) (x y : Operand) (ho : o.op = .store ty x y)
    (g : Nat) (cells : Array Value) (hx : a.eval x = .pointer (some ⟨g, 0, none⟩)) (hy : a.eval y = .agg cells)
    (t : TypeId) (old : Array Value) (hg : w.heap[g]? = some (.cells old t (0, 0))) (hi : (Tryz.prog.info? ty).map (·.size) = some cells.size)
    (hold : old.size = cells.size) (h1 : cells.all (·.oneCell') = true)
    (h : ∀ w', St w g t cells w' → wpList Tryz.prog ops Q rest (a.put o.dst undef) w') : wpList Tryz.prog ops Q (o :: rest) a w :=
  wpList_store_row hgd ty x y ho g cells hx hy t old hg hi hold h1 (h _ ⟨setRow_heap _ _ _ _ t (0, 0) hg, fun k hk => setRow_other _ _ _ _ hk, by simp, fun B W0 hb hB => below_setRow hb hB _⟩)
theorem St.cell {w w' : World} {g : Nat} {t : TypeId} {cs : Array Value} (h : St w g t cs w') {b j : Nat} {v : Value} (hb : b ≠ g) (hc : w.cell? ⟨b, j, none⟩ = some v) : w'.cell? ⟨b, j, none⟩ = some v := by
  unfold World.cell? at hc ⊢
  simp only [h.oth b hb]
  exact hc
/-- an answer, as cells. -/
def ansV (kind : List UInt8) (tv : Value) (at_ why : Int) (wh : Bool) (sz : Int) : Array Value := #[.string ⟨kind.toArray⟩, tv, .int .i64 at_, .int .i64 why, .bool wh, .int .i64 sz]
def ansB (at_ why : Int) : Array Value := #[.string ⟨#[]⟩, .slice none 0 0, .int .i64 at_, .int .i64 why, .bool false, .int .i64 0]
def ansZ : Array Value := #[.string ⟨#[]⟩, .slice none 0 0, .int .i64 0, .int .i64 0, .bool false, .int .i64 0]
theorem bad_any (a y : Int) (w : World) : Calls Tryz.prog 60 #[.int .i64 a, .int .i64 y] w fun e w' => e = .returned (.agg (ansB a y)) ∧ Below w.heap.size w w' := by
  go_enter Tryz.func60, Tryz.ntmps60
  go_wp2
  exact bodyPost_ret (results_cell_row (fn := Tryz.f60) Tryz.results60 _ _ w.heap.size 81 (ansB a y) (0, 0) _ (by rfl) (heap_alloc_new _ _) Tryz.underlying81 rfl info67) rfl ⟨rfl, ball _ _⟩
theorem res_h (fn : Func) (u v p : Tmp) (h : fn.results = #[.tmp u, .tmp v, .cell p 81]) (tmps : Array Value) (w : World) (g : Nat) (cs : Array Value) (eu ev : Value)
    (hu : tmps.getD u undef = eu) (hv : tmps.getD v undef = ev) (hp : tmps.getD p undef = .pointer (some ⟨g, 0, none⟩)) (hg : w.heap[g]? = some (.cells cs 81 (0, 0))) (hi : (Tryz.prog.info? 81).map (·.size) = some cs.size) :
    (results fn tmps).run Tryz.prog w = .ok (.tuple #[eu, ev, .agg cs]) w := by
  have hp' : tmps[p]?.getD undef = .pointer (some ⟨g, 0, none⟩) := by simpa using hp
  have hu' : tmps[u]?.getD undef = eu := by simpa using hu
  have hv' : tmps[v]?.getD undef = ev := by simpa using hv
  simp [results, h, hp', hu', hv', asAddr, run_loadVar_row w g 81 81 cs (0, 0) _ hg Tryz.underlying81 rfl hi]
/-- where the body begins, how long it is said to be; or the place and the error. -/
def headR (l : List UInt8) : (Nat × Nat) × Nat × Int :=
  if (begE l 0 10).2 ≠ 0 then ((0, 0), (begE l 0 10).1, (begE l 0 10).2)
  else if 10 + digN (l.drop 10) 0 5 = l.length then ((0, 0), l.length, 20)
  else match num ((l.drop 10).take (digN (l.drop 10) 0 5)) with
    | none => ((0, 0), 10, 3)
    | some s => if digN (l.drop 10) 0 5 = 5 ∨ l[10 + digN (l.drop 10) 0 5]? ≠ some 1 then ((0, 0), 10, 3)
      else ((10 + digN (l.drop 10) 0 5 + 1, s), 0, 0)
def headV (x : (Nat × Nat) × Nat × Int) : Value := .tuple #[.int .i64 x.1.1, .int .i64 x.1.2, .agg (ansB x.2.1 x.2.2)]
set_option maxHeartbeats 4000000 in
set_option maxRecDepth 100000 in
theorem head_any (l : List UInt8) (q : Option Addr) (cap : Nat) (w : World) (hl : l.length < 4611686018427387904) (hcap : l.length ≤ cap) (hcm : cap < 9223372036854775808) (hS : Sb w q l) :
    Calls Tryz.prog 59 #[.slice q l.length cap] w fun e w' => e = .returned (headV (headR l)) ∧ Below w.heap.size w w' := by
  have HS := hid hS
  have BA := hid bad_any
  have HZ0 := hid (show (w.alloc (.cells ansZ 81)).heap[w.heap.size]? = some (.cells ansZ 81 (0, 0)) from heap_alloc_new _ _)
  clear hS
  go_enter Tryz.func59, Tryz.ntmps59
  go_wp2_with fail
  go_loopw [5] (fun iv wr => ∃ k : Nat, k ≤ 10 ∧ k ≤ l.length ∧ iv = .int .i64 k ∧ Hid (Below w.heap.size w wr) ∧ Hid (wr.heap[w.heap.size]? = some (.cells ansZ 81 (0, 0))) ∧ Hid (begE l 0 10 = begE l k (10 - k))) (fun iv _ => 10 - (RowKit.intOf iv).toNat)
  case atStart => exact ⟨0, by omega, Nat.zero_le _, rfl, hid (ball _ _), HZ0, hid rfl⟩
  case round =>
    obtain ⟨k, hk, hkl, rfl, HB, HZ, HE⟩ := hrel
    clear HZ0
    by_cases hlt : k < 10
    · have i3 : (k : Int) < 10 := by omega
      by_cases hend : k = l.length
      · have HE2 := hid (HE.out.trans (begE_none hlt (by omega)))
        have f1 : ((k : Int) == (l.length : Int)) = true := by simp; omega
        have HRS := hid (show headR l = ((0, 0), l.length, 20) by unfold headR; rw [HE2.out, ← hend]; rfl)
        clear HE hend HE2
        go_wp2_with (first | (go_at_call 60; refine (BA.out _ _ _).mono ?_; rintro e w1 ⟨rfl, hb⟩; have HB1 := hid hb; clear hb; refine Hid.out ?_))
        have HZ1 := hid (row_on HZ.out HB1.out)
        have HW1 := hid (btr' HB.out HB1.out)
        clear HB1 HZ HB
        refine Lib.hid ?_
        go_wp2_with (first | (refine wpList_st (by rfl) 81 (.tmp 4) (.tmp 20) (by rfl) w.heap.size (ansB l.length 20) (by rfl) (by rfl) 81 ansZ HZ1.out info67 rfl (by simp [ansB, Value.oneCell']) ?_; intro w5 hst; have HST := hid hst; clear hst; refine Hid.out ?_))
        refine Lib.hid ?_
        go_wp2
        exact bodyPost_ret (res_h Tryz.f59 2 3 4 Tryz.results59 _ _ w.heap.size (ansB l.length 20) _ _ (by rfl) (by rfl) (by rfl) HST.out.row info67) rfl ⟨by rw [HRS.out]; rfl, HST.out.bel _ _ HW1.out (Nat.le_refl _)⟩
      · obtain ⟨b, o, rfl, h0⟩ := (HS.out.on HB.out) k (by omega)
        obtain ⟨c, hc⟩ : ∃ c, l[k]'(by omega) = c := ⟨_, rfl⟩
        rw [hc] at h0
        have he := HE.out.trans (begE_some hlt (by omega) (by rw [beg_len]; omega))
        rw [hc] at he
        have f1 : ((k : Int) == (l.length : Int)) = false := by simp; omega
        have i0 : (0 : Int) ≤ (k : Int) := by omega
        have i1 : (k : Int) < (l.length : Int) := by omega
        obtain ⟨d, hd⟩ : ∃ d, beg[k]'(by rw [beg_len]; omega) = d := ⟨_, rfl⟩
        have hx : ∀ h : k < (⟨#[56, 61, 66, 82, 83, 46, 49, 1, 57, 61]⟩ : ByteArray).size, (⟨#[56, 61, 66, 82, 83, 46, 49, 1, 57, 61]⟩ : ByteArray)[k] = d := fun h => (ba_at beg k (by rw [beg_len]; omega) h).trans hd
        rw [hd] at he
        have hsz : (⟨#[56, 61, 66, 82, 83, 46, 49, 1, 57, 61]⟩ : ByteArray).size = 10 := rfl
        by_cases hcd : c = d
        · subst hcd
          rw [if_pos rfl] at he
          have HE2 := hid he
          clear he HE hc hd
          go_wp2
          go_quiet (fail)
          go_wp2
          go_roundw
          case rel => exact ⟨k + 1, by omega, by omega, by go_num, hid (HB.out.trans ⟨rfl, rfl, rfl, Nat.le_refl _, fun _ _ => rfl⟩), HZ, HE2⟩
          case measure => simp [RowKit.intOf]; omega
        · rw [if_neg hcd] at he
          have HRS := hid (show headR l = ((0, 0), k, 3) by unfold headR; rw [he]; rfl)
          have hne : ((c.toNat : Int) != (d.toNat : Int)) = true := by
            simp
            intro e
            exact hcd (UInt8.toNat_inj.1 (by omega))
          clear he HE hc hd
          go_wp2
          go_quiet (fail)
          replace HB := hid (show Below w.heap.size w (wr.drewN nq) from HB.out.trans ⟨rfl, rfl, rfl, Nat.le_refl _, fun _ _ => rfl⟩)
          replace HZ := hid (show (wr.drewN nq).heap[w.heap.size]? = some (.cells ansZ 81 (0, 0)) from HZ.out)
          go_wp2_with (first | (go_at_call 60; refine (BA.out _ _ _).mono ?_; rintro e w1 ⟨rfl, hb⟩; have HB1 := hid hb; clear hb; refine Hid.out ?_))
          have HZ1 := hid (row_on HZ.out HB1.out)
          have HW1 := hid (btr' HB.out HB1.out)
          clear HB1 HZ HB
          refine Lib.hid ?_
          go_wp2_with (first | (refine wpList_st (by rfl) 81 (.tmp 4) (.tmp 29) (by rfl) w.heap.size (ansB k 3) (by rfl) (by rfl) 81 ansZ HZ1.out info67 rfl (by simp [ansB, Value.oneCell']) ?_; intro w5 hst; have HST := hid hst; clear hst; refine Hid.out ?_))
          refine Lib.hid ?_
          go_wp2
          exact bodyPost_ret (res_h Tryz.f59 2 3 4 Tryz.results59 _ _ w.heap.size (ansB k 3) _ _ (by rfl) (by rfl) (by rfl) HST.out.row info67) rfl ⟨by rw [HRS.out]; rfl, HST.out.bel _ _ HW1.out (Nat.le_refl _)⟩
    · obtain rfl : k = 10 := by omega
      have HE2 := hid (show begE l 0 10 = (0, 0) from HE.out.trans rfl)
      clear HE
      obtain ⟨b, o, rfl, _⟩ := HS.out 0 (by omega)
      have HSW := hid (HS.out.on HB.out)
      have hdl : (l.drop 10).length = l.length - 10 := by simp
      go_wp2
      go_loopw [7] (fun iv wr2 => ∃ n : Nat, n ≤ 5 ∧ 10 + n ≤ l.length ∧ iv = .int .i64 n ∧ wr2 = wr ∧ Hid (digN (l.drop 10) 0 5 = digN (l.drop 10) n (5 - n))) (fun iv _ => 5 - (RowKit.intOf iv).toNat)
      case atStart => exact ⟨0, by omega, by omega, rfl, rfl, hid rfl⟩
      case round =>
        obtain ⟨n, hn5, hnl, rfl, rfl, HD⟩ := hrel
        have HNA := hid (fun w => natural_any ((l.drop 10).take n) w (by simp; omega))
        rw [nat_num] at HNA
        have CV := hid (conv_sb ((HSW.out.drop 10).take n) (cap - 10))
        have hln : ((l.drop 10).take n).length = n := by simp; omega
        rw [hln] at CV
        obtain ⟨DT, hDT⟩ : ∃ x, (l.drop 10).take n = x := ⟨_, rfl⟩
        rw [hDT] at HNA CV hln
        by_cases h5 : n = 5
        · subst h5
          have HD5 := hid (show digN (l.drop 10) 0 5 = 5 from HD.out)
          by_cases hend : 15 = l.length
          · have HRS := hid (show headR l = ((0, 0), l.length, 20) by unfold headR; rw [HE2.out, HD5.out]; simp [hend])
            have f1 : ((15 : Int) == (l.length : Int)) = true := by simp; omega
            clear HD HD5 HNA CV hDT
            go_wp2_with (first | (go_at_call 60; refine (BA.out _ _ _).mono ?_; rintro e w1 ⟨rfl, hb⟩; have HB1 := hid hb; clear hb; refine Hid.out ?_))
            have HZ1 := hid (row_on HZ.out HB1.out)
            have HW1 := hid (btr' HB.out HB1.out)
            clear HB1 HZ HB
            refine Lib.hid ?_
            go_wp2_with (first | (refine wpList_st (by rfl) 81 (.tmp 4) (.tmp 68) (by rfl) w.heap.size (ansB l.length 20) (by rfl) (by rfl) 81 ansZ HZ1.out info67 rfl (by simp [ansB, Value.oneCell']) ?_; intro w5 hst; have HST := hid hst; clear hst; refine Hid.out ?_))
            refine Lib.hid ?_
            go_wp2
            exact bodyPost_ret (res_h Tryz.f59 2 3 4 Tryz.results59 _ _ w.heap.size (ansB l.length 20) _ _ (by rfl) (by rfl) (by rfl) HST.out.row info67) rfl ⟨by rw [HRS.out]; rfl, HST.out.bel _ _ HW1.out (Nat.le_refl _)⟩
          · have HRS := hid (show headR l = ((0, 0), 10, 3) by unfold headR; rw [HE2.out, HD5.out]; simp only [ne_eq, not_true_eq_false, if_false]; rw [if_neg hend]; cases num ((l.drop 10).take 5) <;> simp)
            have f1 : ((15 : Int) == (l.length : Int)) = false := by simp; omega
            have g1 : (15 : Int) ≤ (cap : Int) := by omega
            have g2 : (10 : Int) ≤ (cap : Int) := by omega
            have cv := CV.out
            clear HD HD5 CV hDT
            go_wp2_with (first | (go_at_call 41; refine (HNA.out _).mono ?_; rintro e w2 ⟨rfl, rfl⟩; refine Hid.out ?_))
            refine Lib.hid ?_
            go_wp2_with (first | (go_at_call 60; refine (BA.out _ _ _).mono ?_; rintro e w1 ⟨rfl, hb⟩; have HB1 := hid hb; clear hb; refine Hid.out ?_))
            have HZ1 := hid (row_on HZ.out HB1.out)
            have HW1 := hid (btr' HB.out HB1.out)
            clear HB1 HZ HB
            refine Lib.hid ?_
            go_wp2_with (first | (refine wpList_st (by rfl) 81 (.tmp 4) (.tmp 96) (by rfl) w.heap.size (ansB 10 3) (by rfl) (by rfl) 81 ansZ HZ1.out info67 rfl (by simp [ansB, Value.oneCell']) ?_; intro w5 hst; have HST := hid hst; clear hst; refine Hid.out ?_))
            refine Lib.hid ?_
            go_wp2
            exact bodyPost_ret (res_h Tryz.f59 2 3 4 Tryz.results59 _ _ w.heap.size (ansB 10 3) _ _ (by rfl) (by rfl) (by rfl) HST.out.row info67) rfl ⟨by rw [HRS.out]; rfl, HST.out.bel _ _ HW1.out (Nat.le_refl _)⟩
        · have n5 : (n : Int) < 5 := by omega
          by_cases hend : 10 + n = l.length
          · have HD5 := hid (show digN (l.drop 10) 0 5 = n from HD.out.trans (digN_none (by omega) (by omega)))
            have HRS := hid (show headR l = ((0, 0), l.length, 20) by unfold headR; rw [HE2.out, HD5.out]; simp [hend])
            have f0 : ¬ (10 + (n : Int) < (l.length : Int)) := by omega
            have f1 : (10 + (n : Int) == (l.length : Int)) = true := by simp; omega
            clear HD HD5 HNA CV hDT
            go_wp2_with (first | (go_at_call 60; refine (BA.out _ _ _).mono ?_; rintro e w1 ⟨rfl, hb⟩; have HB1 := hid hb; clear hb; refine Hid.out ?_))
            have HZ1 := hid (row_on HZ.out HB1.out)
            have HW1 := hid (btr' HB.out HB1.out)
            clear HB1 HZ HB
            refine Lib.hid ?_
            go_wp2_with (first | (refine wpList_st (by rfl) 81 (.tmp 4) (.tmp 68) (by rfl) w.heap.size (ansB l.length 20) (by rfl) (by rfl) 81 ansZ HZ1.out info67 rfl (by simp [ansB, Value.oneCell']) ?_; intro w5 hst; have HST := hid hst; clear hst; refine Hid.out ?_))
            refine Lib.hid ?_
            go_wp2
            exact bodyPost_ret (res_h Tryz.f59 2 3 4 Tryz.results59 _ _ w.heap.size (ansB l.length 20) _ _ (by rfl) (by rfl) (by rfl) HST.out.row info67) rfl ⟨by rw [HRS.out]; rfl, HST.out.bel _ _ HW1.out (Nat.le_refl _)⟩
          · have hlt2 : 10 + n < l.length := by omega
            have h0 := HSW.out.at (10 + n) hlt2
            obtain ⟨c, hc⟩ : ∃ c, l[10 + n]'hlt2 = c := ⟨_, rfl⟩
            rw [hc] at h0
            have hdc : (l.drop 10)[n]'(by omega) = c := by rw [List.getElem_drop]; exact hc
            have hd := HD.out.trans (digN_some (b := l.drop 10) (i := n) (k := 5) (by omega) (by omega))
            rw [hdc] at hd
            have hq : l[10 + n]? = some c := by rw [List.getElem?_eq_getElem hlt2, hc]
            have f0 : 10 + (n : Int) < (l.length : Int) := by omega
            have i0 : (0 : Int) ≤ 10 + (n : Int) := by omega
            by_cases hdig : Dig c
            · rw [if_pos hdig] at hd
              have HD2 := hid hd
              obtain ⟨g1, g2⟩ : (48 : Int) ≤ (c.toNat : Int) ∧ (c.toNat : Int) ≤ 57 := by unfold Dig at hdig; omega
              clear hd HD hdc hc hdig hq HNA CV hDT
              go_wp2
              go_roundw
              case rel => exact ⟨n + 1, by omega, by omega, by go_num, trivial, HD2⟩
              case measure => simp [RowKit.intOf]; omega
            · rw [if_neg hdig] at hd
              have HRS0 := hid (show headR l = (match num DT with | none => ((0, 0), 10, 3) | some s => if n = 5 ∨ l[10 + n]? ≠ some 1 then ((0, 0), 10, 3) else ((10 + n + 1, s), 0, 0)) by
                unfold headR
                rw [HE2.out, hd, hDT]
                simp only [ne_eq, not_true_eq_false, if_false]
                rw [if_neg hend])
              have f1 : (10 + (n : Int) == (l.length : Int)) = false := by simp; omega
              have f5 : ((n : Int) == 5) = false := by simp; omega
              have k1 : 10 + (n : Int) ≤ (cap : Int) := by omega
              have k2 : (10 : Int) ≤ 10 + (n : Int) := by omega
              have cv := CV.out
              have hgd : (c.toNat : Int) < 48 ∨ ((48 : Int) ≤ (c.toNat : Int) ∧ (57 : Int) < (c.toNat : Int)) := by unfold Dig at hdig; omega
              clear HD hd hdc hc CV hDT hdig
              cases hnum : num DT with
              | none =>
                rw [hnum] at HRS0 HNA
                simp only [Option.getD_none, Option.isSome_none] at HNA
                have HRS := hid (show headR l = ((0, 0), 10, 3) from HRS0.out)
                clear hnum HRS0 hq
                rcases hgd with hg | ⟨hg1, hg2⟩
                · have hg3 : ¬ (48 : Int) ≤ (c.toNat : Int) := by omega
                  go_wp2_with (first | (go_at_call 41; refine (HNA.out _).mono ?_; rintro e w2 ⟨rfl, rfl⟩; refine Hid.out ?_))
                  refine Lib.hid ?_
                  go_wp2_with (first | (go_at_call 60; refine (BA.out _ _ _).mono ?_; rintro e w1 ⟨rfl, hb⟩; have HB1 := hid hb; clear hb; refine Hid.out ?_))
                  have HZ1 := hid (row_on HZ.out HB1.out)
                  have HW1 := hid (btr' HB.out HB1.out)
                  clear HB1 HZ HB
                  refine Lib.hid ?_
                  go_wp2_with (first | (refine wpList_st (by rfl) 81 (.tmp 4) (.tmp 96) (by rfl) w.heap.size (ansB 10 3) (by rfl) (by rfl) 81 ansZ HZ1.out info67 rfl (by simp [ansB, Value.oneCell']) ?_; intro w5 hst; have HST := hid hst; clear hst; refine Hid.out ?_))
                  refine Lib.hid ?_
                  go_wp2
                  exact bodyPost_ret (res_h Tryz.f59 2 3 4 Tryz.results59 _ _ w.heap.size (ansB 10 3) _ _ (by rfl) (by rfl) (by rfl) HST.out.row info67) rfl ⟨by rw [HRS.out]; rfl, HST.out.bel _ _ HW1.out (Nat.le_refl _)⟩
                · have hg3 : ¬ (c.toNat : Int) ≤ 57 := by omega
                  go_wp2_with (first | (go_at_call 41; refine (HNA.out _).mono ?_; rintro e w2 ⟨rfl, rfl⟩; refine Hid.out ?_))
                  refine Lib.hid ?_
                  go_wp2_with (first | (go_at_call 60; refine (BA.out _ _ _).mono ?_; rintro e w1 ⟨rfl, hb⟩; have HB1 := hid hb; clear hb; refine Hid.out ?_))
                  have HZ1 := hid (row_on HZ.out HB1.out)
                  have HW1 := hid (btr' HB.out HB1.out)
                  clear HB1 HZ HB
                  refine Lib.hid ?_
                  go_wp2_with (first | (refine wpList_st (by rfl) 81 (.tmp 4) (.tmp 96) (by rfl) w.heap.size (ansB 10 3) (by rfl) (by rfl) 81 ansZ HZ1.out info67 rfl (by simp [ansB, Value.oneCell']) ?_; intro w5 hst; have HST := hid hst; clear hst; refine Hid.out ?_))
                  refine Lib.hid ?_
                  go_wp2
                  exact bodyPost_ret (res_h Tryz.f59 2 3 4 Tryz.results59 _ _ w.heap.size (ansB 10 3) _ _ (by rfl) (by rfl) (by rfl) HST.out.row info67) rfl ⟨by rw [HRS.out]; rfl, HST.out.bel _ _ HW1.out (Nat.le_refl _)⟩
              | some s =>
                rw [hnum] at HRS0 HNA
                simp only [Option.getD_some, Option.isSome_some] at HNA
                have hs5 := num_lt5 DT s hnum (by omega)
                have hws : IntKind.i64.wrap (s : Int) = (s : Int) := by rw [IntKind.wrap_i64]; omega
                clear hnum
                by_cases hc1 : c = 1
                · subst hc1
                  have HRS := hid (show headR l = ((10 + n + 1, s), 0, 0) by rw [HRS0.out]; simp only; rw [if_neg (by rw [hq]; simp; omega)])
                  clear HRS0 hq hgd
                  have hg3 : ¬ (48 : Int) ≤ ((1 : UInt8).toNat : Int) := by decide
                  have hg4 : (((1 : UInt8).toNat : Int) != 1) = false := by decide
                  go_wp2_with (first | (go_at_call 41; refine (HNA.out _).mono ?_; rintro e w2 ⟨rfl, rfl⟩; refine Hid.out ?_))
                  refine Lib.hid ?_
                  go_wp2_with (first | (refine wpList_st (by rfl) 81 (.tmp 4) (.tmp 103) (by rfl) w.heap.size ansZ (by rfl) (by rfl) 81 ansZ HZ.out info67 rfl (by simp [ansZ, Value.oneCell']) ?_; intro w5 hst; have HST := hid hst; clear hst; refine Hid.out ?_))
                  refine Lib.hid ?_
                  go_wp2
                  refine bodyPost_ret (res_h Tryz.f59 2 3 4 Tryz.results59 _ _ w.heap.size ansZ _ _ (by rfl) (by rfl) (by rfl) HST.out.row info67) rfl ⟨?_, HST.out.bel _ _ HB.out (Nat.le_refl _)⟩
                  rw [HRS.out]
                  have e1 : (((10 + n + 1 : Nat)) : Int) = 10 + (n : Int) + 1 := by omega
                  unfold headV
                  simp only [e1]
                  rfl
                · have HRS := hid (show headR l = ((0, 0), 10, 3) by rw [HRS0.out]; simp only; rw [if_pos (Or.inr (by rw [hq]; simpa using hc1))])
                  have hg4 : ((c.toNat : Int) != 1) = true := by
                    simp
                    intro e
                    have e2 : c.toNat = 1 := by omega
                    exact hc1 (UInt8.toNat_inj.1 (by simpa using e2))
                  clear HRS0 hq hc1
                  rcases hgd with hg | ⟨hg1, hg2⟩
                  · have hg3 : ¬ (48 : Int) ≤ (c.toNat : Int) := by omega
                    go_wp2_with (first | (go_at_call 41; refine (HNA.out _).mono ?_; rintro e w2 ⟨rfl, rfl⟩; refine Hid.out ?_))
                    refine Lib.hid ?_
                    go_wp2_with (first | (go_at_call 60; refine (BA.out _ _ _).mono ?_; rintro e w1 ⟨rfl, hb⟩; have HB1 := hid hb; clear hb; refine Hid.out ?_))
                    have HZ1 := hid (row_on HZ.out HB1.out)
                    have HW1 := hid (btr' HB.out HB1.out)
                    clear HB1 HZ HB
                    refine Lib.hid ?_
                    go_wp2_with (first | (refine wpList_st (by rfl) 81 (.tmp 4) (.tmp 96) (by rfl) w.heap.size (ansB 10 3) (by rfl) (by rfl) 81 ansZ HZ1.out info67 rfl (by simp [ansB, Value.oneCell']) ?_; intro w5 hst; have HST := hid hst; clear hst; refine Hid.out ?_))
                    refine Lib.hid ?_
                    go_wp2
                    exact bodyPost_ret (res_h Tryz.f59 2 3 4 Tryz.results59 _ _ w.heap.size (ansB 10 3) _ _ (by rfl) (by rfl) (by rfl) HST.out.row info67) rfl ⟨by rw [HRS.out]; rfl, HST.out.bel _ _ HW1.out (Nat.le_refl _)⟩
                  · have hg3 : ¬ (c.toNat : Int) ≤ 57 := by omega
                    go_wp2_with (first | (go_at_call 41; refine (HNA.out _).mono ?_; rintro e w2 ⟨rfl, rfl⟩; refine Hid.out ?_))
                    refine Lib.hid ?_
                    go_wp2_with (first | (go_at_call 60; refine (BA.out _ _ _).mono ?_; rintro e w1 ⟨rfl, hb⟩; have HB1 := hid hb; clear hb; refine Hid.out ?_))
                    have HZ1 := hid (row_on HZ.out HB1.out)
                    have HW1 := hid (btr' HB.out HB1.out)
                    clear HB1 HZ HB
                    refine Lib.hid ?_
                    go_wp2_with (first | (refine wpList_st (by rfl) 81 (.tmp 4) (.tmp 96) (by rfl) w.heap.size (ansB 10 3) (by rfl) (by rfl) 81 ansZ HZ1.out info67 rfl (by simp [ansB, Value.oneCell']) ?_; intro w5 hst; have HST := hid hst; clear hst; refine Hid.out ?_))
                    refine Lib.hid ?_
                    go_wp2
                    exact bodyPost_ret (res_h Tryz.f59 2 3 4 Tryz.results59 _ _ w.heap.size (ansB 10 3) _ _ (by rfl) (by rfl) (by rfl) HST.out.row info67) rfl ⟨by rw [HRS.out]; rfl, HST.out.bel _ _ HW1.out (Nat.le_refl _)⟩
end Go.Proofs.YtjgjoohdocjpkaaGreatDoor
namespace Go.Proofs.YtjgjoohdocjpkaaGreatDoor
open Go.RowKit Go.Deep Go.Lib Go.Shelf Go.Sort
set_option linter.unusedVariables false
theorem cut_spec (s : List UInt8) : ((61 : UInt8) ∉ s ∧ Lib.cut s [61] = (s, [], false)) ∨ ∃ hd vl, s = hd ++ 61 :: vl ∧ (61 : UInt8) ∉ hd ∧ Lib.cut s [61] = (hd, vl, true) := by
  by_cases h : (61 : UInt8) ∈ s
  · obtain ⟨hd, vl, rfl, hn⟩ := List.eq_append_cons_of_mem h
    exact Or.inr ⟨hd, vl, rfl, hn, cut_at hd vl hn⟩
  · refine Or.inl ⟨h, ?_⟩
    unfold Lib.cut
    rcases Lib.index_spec s [61] with ⟨hm, _⟩ | ⟨i, hi, hl, ho, _⟩
    · rw [hm, if_neg (by omega)]
    · exfalso
      unfold Lib.occAt at ho
      obtain ⟨z, hz⟩ := List.isPrefixOf_iff_prefix.1 ho
      apply h
      have : (61 : UInt8) ∈ s.drop i := by rw [← hz]; simp
      exact List.mem_of_mem_drop this
theorem bodyR_skip (body : List UInt8) : ∀ (seg r : List UInt8) (i g : Nat) (kind : List UInt8) (l : List (Int × List UInt8)), (1 : UInt8) ∉ seg → bodyR body (seg ++ r) i g kind l = bodyR body r (i + seg.length) g kind l
  | [], r, i, g, kind, l, _ => by simp
  | c :: seg, r, i, g, kind, l, h => by
    have h1 : c ≠ 1 := fun e => h (by simp [e])
    rw [List.cons_append, bodyR, if_pos h1, bodyR_skip body seg r (i + 1) g kind l (fun hm => h (List.mem_cons_of_mem _ hm))]
    congr 1
    simp
    omega
/-- one field read. -/
theorem bodyR_field (body seg rest : List UInt8) (g : Nat) (kind : List UInt8) (l : List (Int × List UInt8)) (hR : body.drop g = seg ++ 1 :: rest) (h1 : (1 : UInt8) ∉ seg) :
    bodyR body (body.drop g) g g kind l =
      if (fieldE seg).2 = false then ([], [], g, 3)
      else if g = 0 then (if (kindE (fieldE seg).1).2 ≠ 0 then ([], [], g, (kindE (fieldE seg).1).2) else bodyR body (body.drop (g + seg.length + 1)) (g + seg.length + 1) (g + seg.length + 1) (kindE (fieldE seg).1).1 l)
      else if l.length = 64 then ([], [], g, 2)
      else if fitsE l (fieldE seg).1 ≠ 0 then ([], [], g, fitsE l (fieldE seg).1)
      else bodyR body (body.drop (g + seg.length + 1)) (g + seg.length + 1) (g + seg.length + 1) kind (l ++ [(fieldE seg).1]) := by
  have hrest : body.drop (g + seg.length + 1) = rest := by
    rw [show g + seg.length + 1 = g + (seg.length + 1) by omega, ← List.drop_drop, hR]
    simp
  have hcut : (body.drop g).take (g + seg.length - g) = seg := by rw [hR, show g + seg.length - g = seg.length by omega]; simp
  rw [hrest]
  conv => lhs; rw [hR]
  rw [bodyR_skip body seg (1 :: rest) g g kind l h1, bodyR, if_neg (by simp), hcut]
theorem bodyR_end (body : List UInt8) (kind : List UInt8) (l : List (Int × List UInt8)) (g : Nat) (h : body.length ≤ g) : bodyR body (body.drop g) g g kind l = (kind, l, 0, 0) := by
  rw [List.drop_eq_nil_of_le h, bodyR]
/-- the next field of a body that ends in the byte 1. -/
theorem seg_of (body : List UInt8) (g : Nat) (hg : g < body.length) (hlast : body.getLast? = some 1) : ∃ seg rest, body.drop g = seg ++ 1 :: rest ∧ (1 : UInt8) ∉ seg := by
  have hm : (1 : UInt8) ∈ body.drop g := by
    have hne : body.drop g ≠ [] := by
      intro e
      have := congrArg List.length e
      simp at this
      omega
    have h2 : (body.drop g).getLast? = some 1 := by rw [List.getLast?_drop, if_neg (by omega)]; exact hlast
    exact List.mem_of_getLast? h2
  obtain ⟨a, b, e, hn⟩ := List.eq_append_cons_of_mem hm
  exact ⟨a, b, e, hn⟩
end Go.Proofs.YtjgjoohdocjpkaaGreatDoor
