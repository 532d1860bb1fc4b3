/-
  text.kindOf, text.readField.
-/
import Derived.Test.YtolabllgnfpfaaaDoorTyD
import Derived.Test.YtolabllgnfpfaaaDoorShelfC
namespace Go.Proofs.YtolabllgnfpfaaaDoor
open Go.RowKit Go.Deep Go.Lib Go.Shelf Go.Sort
set_option linter.unusedVariables false

open Classical in
noncomputable def kindE (x : Int × List UInt8) : List UInt8 × Int := if x.1 = 35 ∧ KindOk x.2 then (x.2, 0) else ([], 3)
set_option maxHeartbeats 2000000 in
set_option maxRecDepth 100000 in
/-- text.kindOf. -/
theorem kindof_any (t : Int) (v : List UInt8) (w : World) (hv : v.length < 9223372036854775808) :
    Calls Tryd.prog 33 #[.agg #[.int .i64 t, .string ⟨v.toArray⟩]] w fun e w' => e = .returned (.tuple #[.string ⟨(kindE (t, v)).1.toArray⟩, .int .i64 (kindE (t, v)).2]) ∧ Below w.heap.size w w' := by
  have A0 := hid (ball w (.cells #[.int .i64 t, .string ⟨v.toArray⟩] 64))
  have IK := hid (fun w' => iskind_any v w' hv)
  by_cases ht : t = 35
  · subst ht
    by_cases hk : KindOk v
    · have e : kindE (35, v) = (v, 0) := by unfold kindE; rw [if_pos ⟨rfl, hk⟩]
      rw [e]
      rw [decide_eq_true hk] at IK
      clear e hk
      go_enter Tryd.func33, Tryd.ntmps33
      go_wp2_with (go_at_call 23; refine (IK.out _).mono ?_; rintro e w1 ⟨rfl, hw⟩; subst hw)
      go_ret2
      exact ⟨rfl, A0.out⟩
    · have e : kindE (35, v) = ([], 3) := by unfold kindE; rw [if_neg (fun h => hk h.2)]
      rw [e]
      rw [decide_eq_false hk] at IK
      clear e hk
      go_enter Tryd.func33, Tryd.ntmps33
      go_wp2_with (go_at_call 23; refine (IK.out _).mono ?_; rintro e w1 ⟨rfl, hw⟩; subst hw)
      go_ret2
      exact ⟨rfl, A0.out⟩
  · have e : kindE (t, v) = ([], 3) := by unfold kindE; rw [if_neg (fun h => ht h.1)]
    rw [e]
    have hne : (t != 35) = true := by simpa using ht
    clear e ht
    go_enter Tryd.func33, Tryd.ntmps33
    go_wp2
    go_ret2
    exact ⟨rfl, A0.out⟩

/-- .. and a number of the library's. -/
structure LayM (w : World) : Prop where
  laye : LayE w
  mx : ∃ m, w.cell? ⟨1, 0, none⟩ = some (.int .i64 m)
theorem LayM.on {w w' : World} (h : LayM w) (hb : Below w.heap.size w w') : LayM w' := by
  obtain ⟨m, hm⟩ := h.mx
  exact ⟨h.laye.on hb, m, by rw [hb.cell (cell_lt hm)]; exact hm⟩
theorem info28 : (Tryd.prog.info? 64).map (·.size) = some 2 := by kernel_rfl
theorem res28 (fn : Func) (p u : Tmp) (h : fn.results = #[.cell p 64, .tmp u]) (tmps : Array Value) (w : World) (g : Nat) (a b eu : Value)
    (hp : tmps.getD p undef = .pointer (some ⟨g, 0, none⟩)) (hu : tmps.getD u undef = eu) (h0 : w.cell? ⟨g, 0, none⟩ = some a) (h1 : w.cell? ⟨g, 1, none⟩ = some b) :
    (results fn tmps).run Tryd.prog w = .ok (.tuple #[.agg #[a, b], eu]) w := by
  have hp' : tmps[p]?.getD undef = .pointer (some ⟨g, 0, none⟩) := by simpa using hp
  have hu' : tmps[u]?.getD undef = eu := by simpa using hu
  have hr : w.rangeAt g 0 [a, b] := by
    intro j x hj
    match j, hj with
    | 0, hj => simp at hj; subst hj; simpa using h0
    | 1, hj => simp at hj; subst hj; simpa using h1
  simp [results, h, hp', hu', asAddr, run_loadVar_mid w g 0 64 [a, b] _ hr Tryd.underlying64 rfl info28]
/-- a field's tag and value; false: it has no tag. -/
def fieldE (s : List UInt8) : (Int × List UInt8) × Bool :=
  if (Lib.cut s [61]).2.2 = false ∨ 4 < (Lib.cut s [61]).1.length then ((0, []), false)
  else ((((num (Lib.cut s [61]).1).getD 0 : Nat), (Lib.cut s [61]).2.1), (num (Lib.cut s [61]).1).isSome)
set_option maxHeartbeats 2000000 in
set_option maxRecDepth 100000 in
/-- text.readField. -/
theorem readfield_any (s : List UInt8) (w : World) (hs : s.length < 100000) (hM : LayM w) :
    Calls Tryd.prog 32 #[.string ⟨s.toArray⟩] w fun e w' => e = .returned (.tuple #[.agg #[.int .i64 (fieldE s).1.1, .string ⟨(fieldE s).1.2.toArray⟩], .bool (fieldE s).2]) ∧ Below w.heap.size w w' := by
  obtain ⟨W, hW⟩ : ∃ W, w.alloc (.cells #[.int .i64 0, .string ⟨#[]⟩] 64) = W := ⟨_, rfl⟩
  have HBW := hid (show Below w.heap.size w W from hW ▸ ball w _)
  have HMW := hid (hM.on HBW.out)
  obtain ⟨m, hm⟩ := HMW.out.mx
  have CT := hid (Tryd.strings_Cut ⟨s.toArray⟩ ⟨#[61]⟩ m W (by simp [ByteArray.size]; omega) hm)
  simp only at CT
  have c0 : W.cell? ⟨w.heap.size, 0, none⟩ = some (.int .i64 0) := by subst hW; exact World.cell?_alloc_new _ _ _ _
  have c1 : W.cell? ⟨w.heap.size, 1, none⟩ = some (.string ⟨#[]⟩) := by subst hW; exact World.cell?_alloc_new _ _ _ _
  have f0 : W.frozen? ⟨w.heap.size, 0, none⟩ = false := by subst hW; exact World.frozen?_alloc_new _ _ _ _
  have f1 : W.frozen? ⟨w.heap.size, 1, none⟩ = false := by subst hW; exact World.frozen?_alloc_new _ _ _ _
  obtain ⟨R, hR⟩ : ∃ R, fieldE s = R := ⟨_, rfl⟩
  have HE := hid hR
  unfold fieldE at HE
  rw [hR]
  have hle : (Lib.cut s [61]).1.length ≤ s.length := by
    unfold Lib.cut
    split
    · simp; omega
    · exact Nat.le_refl _
  have hle2 : (Lib.cut s [61]).2.1.length ≤ s.length := by
    unfold Lib.cut
    split
    · simp
    · simp
  obtain ⟨hd, vl, ok, hcut⟩ : ∃ a b c, Lib.cut s [61] = (a, b, c) := ⟨_, _, _, rfl⟩
  rw [hcut] at CT HE hle hle2
  simp only at CT HE hle hle2
  have HWs := hid (show W.heap.size = w.heap.size + 1 by subst hW; simp)
  clear hcut hR hM hm
  have DB := hid (fun (n : Nat) => (show Below W.heap.size W (W.drewN n) from ⟨rfl, rfl, rfl, Nat.le_refl _, fun _ _ => rfl⟩))
  cases ok with
  | false =>
    rw [if_pos (Or.inl rfl)] at HE
    obtain rfl := HE.out
    clear HE
    go_enter Tryd.func32, Tryd.ntmps32
    go_wp2_with (first | (go_at_call 46; refine CT.out.mono ?_; rintro e w1 ⟨rfl, n, hw⟩; have hb : Below W.heap.size W w1 := hw ▸ DB.out n; have HB1 := hid (btr' HBW.out hb); have q0 := (hb.cell (cell_lt c0)).trans c0; have q1 := (hb.cell (cell_lt c1)).trans c1; have r0 := (hb.frozen (cell_lt c0)).trans f0; have r1 := (hb.frozen (cell_lt c1)).trans f1; have HM1 := hid (HMW.out.on hb); clear hb hw))
    refine bodyPost_ret (res28 Tryd.f32 2 3 Tryd.results32 _ _ w.heap.size (.int .i64 0) (.string ⟨#[]⟩) _ (by rfl) (by rfl) ?c0 ?c1) rfl ⟨rfl, ?bel⟩
    case c0 => exact (set2 q0 q1).1
    case c1 => exact (set2 q0 q1).2
    case bel =>
      repeat (first | exact HB1.out | apply Below.setCell)
      all_goals simp
  | true =>
    by_cases h4 : 4 < hd.length
    · rw [if_pos (Or.inr h4)] at HE
      obtain rfl := HE.out
      have g4 : (4 : Int) < (hd.length : Int) := by omega
      clear HE
      go_enter Tryd.func32, Tryd.ntmps32
      go_wp2_with (first | (go_at_call 46; refine CT.out.mono ?_; rintro e w1 ⟨rfl, n, hw⟩; have hb : Below W.heap.size W w1 := hw ▸ DB.out n; have HB1 := hid (btr' HBW.out hb); have q0 := (hb.cell (cell_lt c0)).trans c0; have q1 := (hb.cell (cell_lt c1)).trans c1; have r0 := (hb.frozen (cell_lt c0)).trans f0; have r1 := (hb.frozen (cell_lt c1)).trans f1; have HM1 := hid (HMW.out.on hb); clear hb hw))
      refine bodyPost_ret (res28 Tryd.f32 2 3 Tryd.results32 _ _ w.heap.size (.int .i64 0) (.string ⟨#[]⟩) _ (by rfl) (by rfl) ?c0 ?c1) rfl ⟨rfl, ?bel⟩
      case c0 => exact (set2 q0 q1).1
      case c1 => exact (set2 q0 q1).2
      case bel =>
        repeat (first | exact HB1.out | apply Below.setCell)
        all_goals simp
    · rw [if_neg (by rintro (h | h); cases h; exact h4 h)] at HE
      obtain rfl := HE.out
      have g4 : ¬ ((4 : Int) < (hd.length : Int)) := by omega
      have NB := hid (fun w' hL => number_any hd (by omega) w' hL)
      have hnb : (num hd).getD 0 < 100000 := by
        cases hn : num hd with
        | none => simp
        | some k => exact num_lt5 hd k hn (by omega)
      obtain ⟨nn, hnn⟩ : ∃ n, (num hd).getD 0 = n := ⟨_, rfl⟩
      obtain ⟨ob, hob⟩ : ∃ n, (num hd).isSome = n := ⟨_, rfl⟩
      rw [hnn] at NB hnb ⊢
      rw [hob] at NB ⊢
      have hwn : IntKind.i64.wrap (nn : Int) = (nn : Int) := by rw [IntKind.wrap_i64]; omega
      clear HE hnn hob
      go_enter Tryd.func32, Tryd.ntmps32
      go_wp2_with (first | (go_at_call 46; refine CT.out.mono ?_; rintro e w1 ⟨rfl, n, hw⟩; have hb : Below W.heap.size W w1 := hw ▸ DB.out n; have HB1 := hid (btr' HBW.out hb); have q0 := (hb.cell (cell_lt c0)).trans c0; have q1 := (hb.cell (cell_lt c1)).trans c1; have r0 := (hb.frozen (cell_lt c0)).trans f0; have r1 := (hb.frozen (cell_lt c1)).trans f1; have HM1 := hid (HMW.out.on hb); clear hb hw) | (go_at_call 45; refine (NB.out _ HM1.out.laye).mono ?_; rintro e w2 ⟨rfl, hb⟩; have HB2 := hid (btr' HB1.out hb); have p0 := (hb.cell (cell_lt q0)).trans q0; have p1 := (hb.cell (cell_lt q1)).trans q1; have t0 := (hb.frozen (cell_lt q0)).trans r0; have t1 := (hb.frozen (cell_lt q1)).trans r1; clear hb))
      refine bodyPost_ret (res28 Tryd.f32 2 3 Tryd.results32 _ _ w.heap.size (.int .i64 (nn : Int)) (.string ⟨vl.toArray⟩) _ (by rfl) (by rfl) ?c0 ?c1) rfl ⟨rfl, ?bel⟩
      case c0 => exact (set2 p0 p1).1
      case c1 => exact (set2 p0 p1).2
      case bel =>
        repeat (first | exact HB2.out | apply Below.setCell)
        all_goals simp
end Go.Proofs.YtolabllgnfpfaaaDoor
