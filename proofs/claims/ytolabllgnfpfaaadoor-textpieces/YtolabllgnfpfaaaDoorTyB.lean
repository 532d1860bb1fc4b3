/-
  text.readLength.
-/
import Derived.Test.YtolabllgnfpfaaaDoorTyA
namespace Go.Proofs.YtolabllgnfpfaaaDoor
open Go.RowKit Go.Deep Go.Lib Go.Shelf Go.Sort
set_option linter.unusedVariables false

theorem info62 : (Tryd.prog.info? 53).map (·.size) = some 2 := by kernel_rfl
theorem res62 (fn : Func) (p u v : Tmp) (h : fn.results = #[.cell p 53, .tmp u, .tmp v]) (tmps : Array Value) (w : World) (g : Nat) (a b eu ev : Value)
    (hp : tmps.getD p undef = .pointer (some ⟨g, 0, none⟩)) (hu : tmps.getD u undef = eu) (hv : tmps.getD v undef = ev) (h0 : w.cell? ⟨g, 0, none⟩ = some a) (h1 : w.cell? ⟨g, 1, none⟩ = some b) :
    (results fn tmps).run Tryd.prog w = .ok (.tuple #[.agg #[a, b], eu, ev]) w := by
  have hp' : tmps[p]?.getD undef = .pointer (some ⟨g, 0, none⟩) := by simpa using hp
  have hu' : tmps[u]?.getD undef = eu := by simpa using hu
  have hv' : tmps[v]?.getD undef = ev := by simpa using hv
  have hr : w.rangeAt g 0 [a, b] := by
    intro j x hj
    match j, hj with
    | 0, hj => simp at hj; subst hj; simpa using h0
    | 1, hj => simp at hj; subst hj; simpa using h1
  simp [results, h, hp', hu', hv', asAddr, run_loadVar_mid w g 0 53 [a, b] _ hr Tryd.underlying53 rfl info62]
theorem digN_le (b : List UInt8) : ∀ (k i : Nat), i ≤ b.length → i ≤ digN b i k ∧ digN b i k ≤ i + k ∧ digN b i k ≤ b.length
  | 0, i, h => by simp only [digN]; omega
  | k + 1, i, h => by
    simp only [digN]
    split
    · omega
    · rename_i c hc
      obtain ⟨hlt, _⟩ := List.getElem?_eq_some_iff.1 hc
      split
      · have := digN_le b k (i + 1) (by omega)
        omega
      · omega
theorem Sb.drop {w : World} {b o : Nat} {l : List UInt8} (h : Sb w (some ⟨b, o, none⟩) l) (k : Nat) : Sb w (some ⟨b, o + k, none⟩) (l.drop k) := by
  intro i hi
  rw [List.length_drop] at hi
  obtain ⟨b', o', e, h0⟩ := h (k + i) (by omega)
  obtain ⟨rfl, rfl⟩ : b = b' ∧ o = o' := by simpa using e
  exact ⟨b, o + k, rfl, by rw [Nat.add_assoc, List.getElem_drop]; exact h0⟩
theorem Sb.take {w : World} {q : Option Addr} {l : List UInt8} (h : Sb w q l) (k : Nat) : Sb w q (l.take k) := by
  intro i hi
  have hi' : i < l.length := by simp at hi; omega
  obtain ⟨b, o, e, h0⟩ := h i hi'
  exact ⟨b, o, e, by simpa using h0⟩
theorem conv_sb {w : World} {b o : Nat} {l : List UInt8} (h : Sb w (some ⟨b, o, none⟩) l) (c : Nat) : (convert 26 9 (.slice (some ⟨b, o, none⟩) l.length c)).run Tryd.prog w = .ok (.string ⟨l.toArray⟩) w :=
  run_convert_bytes_back (P := Tryd.prog) w 26 9 5 ⟨b, o, none⟩ c l Tryd.underlying26 Tryd.underlying5 Tryd.underlying9 (fun j hj => by
    obtain ⟨b', o', e, h0⟩ := h j hj
    obtain ⟨rfl, rfl⟩ : b = b' ∧ o = o' := by simpa using e
    rw [Addr.add_mid]; exact h0)
theorem Sb.at {w : World} {b o : Nat} {l : List UInt8} (h : Sb w (some ⟨b, o, none⟩) l) (k : Nat) (hk : k < l.length) : w.cell? ⟨b, o + k, none⟩ = some (.int .u8 ((l[k]'hk).toNat : Int)) := by
  obtain ⟨b', o', e, h0⟩ := h k hk
  obtain ⟨rfl, rfl⟩ : b = b' ∧ o = o' := by simpa using e
  exact h0

/-- where the body would stand; with an error its place. -/
def lenE (l : List UInt8) : (Nat × Nat) × Nat × Int :=
  if 10 + digN (l.drop 10) 0 5 = l.length then ((0, 0), 10 + digN (l.drop 10) 0 5, 20)
  else match num ((l.drop 10).take (digN (l.drop 10) 0 5)) with
    | none => ((0, 0), 10, 3)
    | some s => if digN (l.drop 10) 0 5 = 5 ∨ l[10 + digN (l.drop 10) 0 5]? ≠ some 1 then ((0, 0), 10, 3)
      else if 2048 < 10 + digN (l.drop 10) 0 5 + 1 + s + 7 then ((0, 0), 10, 2)
      else ((10 + digN (l.drop 10) 0 5 + 1, 10 + digN (l.drop 10) 0 5 + 1 + s), 0, 0)
def lenV (x : (Nat × Nat) × Nat × Int) : Value := .tuple #[.agg #[.int .i64 x.1.1, .int .i64 x.1.2], .int .i64 x.2.1, .int .i64 x.2.2]

theorem set2 {w : World} {g : Nat} {x y a b : Value} (h0 : w.cell? ⟨g, 0, none⟩ = some x) (h1 : w.cell? ⟨g, 1, none⟩ = some y) :
    ((w.setCell ⟨g, 0, none⟩ a).setCell ⟨g, 1, none⟩ b).cell? ⟨g, 0, none⟩ = some a ∧ ((w.setCell ⟨g, 0, none⟩ a).setCell ⟨g, 1, none⟩ b).cell? ⟨g, 1, none⟩ = some b := by
  refine ⟨?_, ?_⟩
  · rw [World.cell?_setCell_other _ _ _ _ (by simp)]
    exact World.cell?_setCell_same _ _ _ h0
  · exact World.cell?_setCell_same _ _ _ (by rw [World.cell?_setCell_other _ _ _ _ (by simp)]; exact h1)
theorem num_lt5 (l : List UInt8) (s : Nat) (h : num l = some s) (hl : l.length ≤ 5) : s < 100000 := by
  obtain ⟨e, _⟩ := num_some l s h
  have h1 := lt_pow_nDigits s
  rw [← decDigits_length, e] at h1
  have h2 : 10 ^ l.length ≤ 10 ^ 5 := Nat.pow_le_pow_right (by decide) hl
  omega
set_option maxHeartbeats 1000000 in
set_option maxRecDepth 100000 in
theorem length_none (l : List UInt8) (b o : Nat) (w : World) (h10 : l.length = 10) :
    Calls Tryd.prog 30 #[.slice (some ⟨b, o, none⟩) l.length 10] w fun e w' => e = .returned (lenV (lenE l)) ∧ Below w.heap.size w w' := by
  have hd0 : l.drop 10 = [] := List.drop_eq_nil_of_le (by omega)
  have hE : lenE l = ((0, 0), 10, 20) := by
    unfold lenE
    rw [hd0, show digN [] 0 5 = 0 from rfl, if_pos (by omega)]
  rw [hE]
  have DG := hid (fun W => digits_any [] (some ⟨b, o, none⟩) 0 W (by decide) (fun i hi => by simp at hi))
  rw [show digN [] 0 5 = 0 from rfl] at DG
  rw [h10]
  clear hE hd0 h10
  go_enter Tryd.func30, Tryd.ntmps30
  go_wp2_with (go_at_call 44; refine (DG.out _).mono ?_; rintro e w1 ⟨rfl, rfl⟩)
  refine bodyPost_ret (res62 Tryd.f30 2 3 4 Tryd.results30 _ _ w.heap.size (.int .i64 0) (.int .i64 0) _ _ (by rfl) (by rfl) (by rfl) (by simp) (by simp)) rfl ⟨rfl, ?_⟩
  repeat (first | exact ball _ _ | apply Below.setCell)
  all_goals simp

set_option maxHeartbeats 4000000 in
set_option maxRecDepth 100000 in
theorem length_big (l : List UInt8) (b o : Nat) (cap : Nat) (w : World) (hl : l.length < 4611686018427387904) (h10 : 10 ≤ l.length) (hcap : l.length ≤ cap) (hcm : cap < 9223372036854775808) (h11 : 10 < cap) (hS : Sb w (some ⟨b, o, none⟩) l) (hL : LayE w) :
    Calls Tryd.prog 30 #[.slice (some ⟨b, o, none⟩) l.length cap] w fun e w' => e = .returned (lenV (lenE l)) ∧ Below w.heap.size w w' := by
  obtain ⟨W, hW⟩ : ∃ W, w.alloc (.cells #[.int .i64 0, .int .i64 0] 53) = W := ⟨_, rfl⟩
  have HBW := hid (show Below w.heap.size w W from hW ▸ ball w _)
  have HSW := hid (hS.on HBW.out)
  have HLW := hid (hL.on HBW.out)
  have hWs : W.heap.size = w.heap.size + 1 := by subst hW; simp
  have hdl : (l.drop 10).length = l.length - 10 := List.length_drop ..
  have DG := hid (digits_any (l.drop 10) (some ⟨b, o + 10, none⟩) (cap - 10) W (by omega) (HSW.out.drop 10))
  rw [hdl] at DG
  obtain ⟨_, hd5, hdn⟩ := digN_le (l.drop 10) 5 0 (by omega)
  rw [hdl] at hdn
  obtain ⟨d, hd⟩ : ∃ d, digN (l.drop 10) 0 5 = d := ⟨_, rfl⟩
  obtain ⟨R, hR⟩ : ∃ R, lenE l = R := ⟨_, rfl⟩
  have HE := hid hR
  unfold lenE at HE
  rw [hd] at DG hd5 hdn HE
  rw [hR]
  have hc0 : W.cell? ⟨w.heap.size, 0, none⟩ = some (.int .i64 0) := by subst hW; exact World.cell?_alloc_new _ _ _ _
  have hc1 : W.cell? ⟨w.heap.size, 1, none⟩ = some (.int .i64 0) := by subst hW; exact World.cell?_alloc_new _ _ _ _
  have hf0 : W.frozen? ⟨w.heap.size, 0, none⟩ = false := by subst hW; exact World.frozen?_alloc_new _ _ _ _
  have hf1 : W.frozen? ⟨w.heap.size, 1, none⟩ = false := by subst hW; exact World.frozen?_alloc_new _ _ _ _
  have j0 : (10 : Int) ≤ (l.length : Int) := by omega
  have j1 : (l.length : Int) ≤ (cap : Int) := by omega
  have j2 : ¬ (cap = 10) := by omega
  have hlt : ((l.drop 10).take d).length = d := by simp; omega
  have CV := hid (conv_sb ((HSW.out.drop 10).take d) (cap - 10))
  have NB := hid (number_any ((l.drop 10).take d) (by omega) W HLW.out)
  rw [hlt] at CV
  obtain ⟨DT, hDT⟩ : ∃ x, (l.drop 10).take d = x := ⟨_, rfl⟩
  rw [hDT] at CV NB HE hlt
  have HWs := hid hWs
  have HWW := hid hW
  clear hS hL hdl hd hR hDT hWs
  by_cases hst : 10 + d = l.length
  · rw [if_pos hst] at HE
    have f1 : (10 + (d : Int) == (l.length : Int)) = true := by simp; omega
    obtain rfl := HE.out
    have HST := hid hst
    clear HE hst hlt
    go_enter Tryd.func30, Tryd.ntmps30
    go_wp2_with (go_at_call 44; refine DG.out.mono ?_; rintro e w1 ⟨rfl, rfl⟩)
    refine bodyPost_ret (res62 Tryd.f30 2 3 4 Tryd.results30 _ _ w.heap.size (.int .i64 0) (.int .i64 0) _ _ (by rfl) (by rfl) (by rfl) ?c0 ?c1) rfl ⟨rfl, ?bel⟩
    case c0 => exact (set2 hc0 hc1).1
    case c1 => exact (set2 hc0 hc1).2
    case bel =>
      repeat (first | exact HBW.out | apply Below.setCell)
      all_goals simp
  · rw [if_neg hst] at HE
    have f1 : (10 + (d : Int) == (l.length : Int)) = false := by simp; omega
    have hsl : 10 + d < l.length := by omega
    have j3 : (10 : Int) ≤ 10 + (d : Int) := by omega
    have j4 : 10 + (d : Int) ≤ (cap : Int) := by omega
    have j5 : (0 : Int) ≤ 10 + (d : Int) := by omega
    have j6 : 10 + (d : Int) < (l.length : Int) := by omega
    have HC := hid (HSW.out.at (10 + d) hsl)
    have HG := hid (List.getElem?_eq_getElem hsl)
    obtain ⟨c, hc⟩ : ∃ c, l[10 + d] = c := ⟨_, rfl⟩
    rw [hc] at HC HG
    rw [HG.out] at HE
    cases hn : num DT with
    | none =>
      rw [hn] at HE NB
      obtain rfl := HE.out
      simp only [Option.getD_none, Option.isSome_none] at NB
      have cv := CV.out
      clear HE hst hlt hc hn
      go_enter Tryd.func30, Tryd.ntmps30
      go_wp2_with (first | (go_at_call 44; refine DG.out.mono ?_; rintro e w1 ⟨rfl, rfl⟩) | (go_at_call 45; refine NB.out.mono ?_; rintro e w2 ⟨rfl, hb⟩; have HB2 := hid (btr' HBW.out hb); have q0 := (hb.cell (by have := HWs.out; simp; omega)).trans hc0; have q1 := (hb.cell (by have := HWs.out; simp; omega)).trans hc1; have r0 := (hb.frozen (by have := HWs.out; simp; omega)).trans hf0; have r1 := (hb.frozen (by have := HWs.out; simp; omega)).trans hf1; clear hb))
      refine bodyPost_ret (res62 Tryd.f30 2 3 4 Tryd.results30 _ _ w.heap.size (.int .i64 0) (.int .i64 0) _ _ (by rfl) (by rfl) (by rfl) ?c0 ?c1) rfl ⟨rfl, ?bel⟩
      case c0 => exact (set2 q0 q1).1
      case c1 => exact (set2 q0 q1).2
      case bel =>
        repeat (first | exact HB2.out | apply Below.setCell)
        all_goals simp
    | some s =>
      rw [hn] at HE NB
      simp only [Option.getD_some, Option.isSome_some] at NB
      have hs5 := num_lt5 DT s hn (by omega)
      have cv := CV.out
      clear hst hlt hc hn
      simp only at HE
      by_cases hd : d = 5
      · rw [if_pos (Or.inl hd)] at HE
        obtain rfl := HE.out
        subst hd
        clear HE
        go_enter Tryd.func30, Tryd.ntmps30
        go_wp2_with (first | (go_at_call 44; refine DG.out.mono ?_; rintro e w1 ⟨rfl, rfl⟩) | (go_at_call 45; refine NB.out.mono ?_; rintro e w2 ⟨rfl, hb⟩; have HB2 := hid (btr' HBW.out hb); have q0 := (hb.cell (by have := HWs.out; simp; omega)).trans hc0; have q1 := (hb.cell (by have := HWs.out; simp; omega)).trans hc1; have r0 := (hb.frozen (by have := HWs.out; simp; omega)).trans hf0; have r1 := (hb.frozen (by have := HWs.out; simp; omega)).trans hf1; have q2 := (hb.cell (cell_lt HC.out)).trans HC.out; have HL2 := hid (HLW.out.on hb); clear hb))
        refine bodyPost_ret (res62 Tryd.f30 2 3 4 Tryd.results30 _ _ w.heap.size (.int .i64 0) (.int .i64 0) _ _ (by rfl) (by rfl) (by rfl) ?c0 ?c1) rfl ⟨rfl, ?bel⟩
        case c0 => exact (set2 q0 q1).1
        case c1 => exact (set2 q0 q1).2
        case bel =>
          repeat (first | exact HB2.out | apply Below.setCell)
          all_goals simp
      · have g1 : ((d : Int) == 5) = false := by simp; omega
        have g2 : (10 + (d : Int) - 10 == 5) = false := by simp; omega
        by_cases hc1x : c = 1
        · rw [if_neg (by rintro (h | h); exact hd h; exact h (by rw [hc1x]))] at HE
          subst hc1x
          have EN := hid (fun w' => end_any (10 + d + 1) (10 + d + 1 + s) w' (by omega))
          rw [show ((10 + d + 1 : Nat) : Int) = 10 + (d : Int) + 1 by omega, show ((10 + d + 1 + s : Nat) : Int) = 10 + (d : Int) + 1 + (s : Int) by omega] at EN
          have hws : IntKind.i64.wrap (s : Int) = (s : Int) := by rw [IntKind.wrap_i64]; omega
          by_cases hbig : 2048 < 10 + d + 1 + s + 7
          · rw [if_pos hbig] at HE
            obtain rfl := HE.out
            have hb2 : (2048 : Int) < 10 + (d : Int) + 1 + (s : Int) + 7 := by omega
            clear HE hd
            go_enter Tryd.func30, Tryd.ntmps30
            go_wp2_with (first | (go_at_call 44; refine DG.out.mono ?_; rintro e w1 ⟨rfl, rfl⟩) | (go_at_call 45; refine NB.out.mono ?_; rintro e w2 ⟨rfl, hb⟩; have HB2 := hid (btr' HBW.out hb); have q0 := (hb.cell (by have := HWs.out; simp; omega)).trans hc0; have q1 := (hb.cell (by have := HWs.out; simp; omega)).trans hc1; have r0 := (hb.frozen (by have := HWs.out; simp; omega)).trans hf0; have r1 := (hb.frozen (by have := HWs.out; simp; omega)).trans hf1; have q2 := (hb.cell (cell_lt HC.out)).trans HC.out; have HL2 := hid (HLW.out.on hb); clear hb) | (go_at_call 21; refine (EN.out _).mono ?_; rintro e w3 ⟨rfl, hb⟩; have hb' := btr' (ball w2 _) hb; have HB3 := hid (btr' HB2.out hb'); have p0 := (hb'.cell (cell_lt q0)).trans q0; have p1 := (hb'.cell (cell_lt q1)).trans q1; have t0 := (hb'.frozen (cell_lt q0)).trans r0; have t1 := (hb'.frozen (cell_lt q1)).trans r1; have b0 := cell_new 0 hb rfl; have b1 := cell_new 1 hb rfl; clear hb hb'))
            refine bodyPost_ret (res62 Tryd.f30 2 3 4 Tryd.results30 _ _ w.heap.size (.int .i64 0) (.int .i64 0) _ _ (by rfl) (by rfl) (by rfl) ?c0 ?c1) rfl ⟨rfl, ?bel⟩
            case c0 => exact (set2 p0 p1).1
            case c1 => exact (set2 p0 p1).2
            case bel =>
              repeat (first | exact HB3.out | apply Below.setCell)
              all_goals simp
          · rw [if_neg hbig] at HE
            obtain rfl := HE.out
            have hb2 : ¬ ((2048 : Int) < 10 + (d : Int) + 1 + (s : Int) + 7) := by omega
            clear HE hd
            go_enter Tryd.func30, Tryd.ntmps30
            go_wp2_with (first | (go_at_call 44; refine DG.out.mono ?_; rintro e w1 ⟨rfl, rfl⟩) | (go_at_call 45; refine NB.out.mono ?_; rintro e w2 ⟨rfl, hb⟩; have HB2 := hid (btr' HBW.out hb); have q0 := (hb.cell (by have := HWs.out; simp; omega)).trans hc0; have q1 := (hb.cell (by have := HWs.out; simp; omega)).trans hc1; have r0 := (hb.frozen (by have := HWs.out; simp; omega)).trans hf0; have r1 := (hb.frozen (by have := HWs.out; simp; omega)).trans hf1; have q2 := (hb.cell (cell_lt HC.out)).trans HC.out; have HL2 := hid (HLW.out.on hb); clear hb) | (go_at_call 21; refine (EN.out _).mono ?_; rintro e w3 ⟨rfl, hb⟩; have hb' := btr' (ball w2 _) hb; have HB3 := hid (btr' HB2.out hb'); have p0 := (hb'.cell (cell_lt q0)).trans q0; have p1 := (hb'.cell (cell_lt q1)).trans q1; have t0 := (hb'.frozen (cell_lt q0)).trans r0; have t1 := (hb'.frozen (cell_lt q1)).trans r1; have b0 := cell_new 0 hb rfl; have b1 := cell_new 1 hb rfl; clear hb hb'))
            refine bodyPost_ret (res62 Tryd.f30 2 3 4 Tryd.results30 _ _ w.heap.size (.int .i64 (10 + (d : Int) + 1)) (.int .i64 (10 + (d : Int) + 1 + (s : Int))) _ _ (by rfl) (by rfl) (by rfl) ?c0 ?c1) rfl ⟨by simp [lenV], ?bel⟩
            case c0 => exact (set2 p0 p1).1
            case c1 => exact (set2 p0 p1).2
            case bel =>
              repeat (first | exact HB3.out | apply Below.setCell)
              all_goals simp
        · rw [if_pos (Or.inr (by simpa using hc1x))] at HE
          obtain rfl := HE.out
          have hne : ((c.toNat : Int) != 1) = true := by
            simp
            intro e
            have e2 : c.toNat = 1 := by omega
            exact hc1x (UInt8.toNat_inj.1 (by simpa using e2))
          clear HE hd hc1x
          go_enter Tryd.func30, Tryd.ntmps30
          go_wp2_with (first | (go_at_call 44; refine DG.out.mono ?_; rintro e w1 ⟨rfl, rfl⟩) | (go_at_call 45; refine NB.out.mono ?_; rintro e w2 ⟨rfl, hb⟩; have HB2 := hid (btr' HBW.out hb); have q0 := (hb.cell (by have := HWs.out; simp; omega)).trans hc0; have q1 := (hb.cell (by have := HWs.out; simp; omega)).trans hc1; have r0 := (hb.frozen (by have := HWs.out; simp; omega)).trans hf0; have r1 := (hb.frozen (by have := HWs.out; simp; omega)).trans hf1; have q2 := (hb.cell (cell_lt HC.out)).trans HC.out; have HL2 := hid (HLW.out.on hb); clear hb))
          refine bodyPost_ret (res62 Tryd.f30 2 3 4 Tryd.results30 _ _ w.heap.size (.int .i64 0) (.int .i64 0) _ _ (by rfl) (by rfl) (by rfl) ?c0 ?c1) rfl ⟨rfl, ?bel⟩
          case c0 => exact (set2 q0 q1).1
          case c1 => exact (set2 q0 q1).2
          case bel =>
            repeat (first | exact HB2.out | apply Below.setCell)
            all_goals simp

/-- text.readLength. -/
theorem length_any (l : List UInt8) (b o : Nat) (cap : Nat) (w : World) (hl : l.length < 4611686018427387904) (h10 : 10 ≤ l.length) (hcap : l.length ≤ cap) (hcm : cap < 9223372036854775808) (hS : Sb w (some ⟨b, o, none⟩) l) (hL : LayE w) :
    Calls Tryd.prog 30 #[.slice (some ⟨b, o, none⟩) l.length cap] w fun e w' => e = .returned (lenV (lenE l)) ∧ Below w.heap.size w w' := by
  by_cases h : cap = 10
  · subst h
    exact length_none l b o w (by omega)
  · exact length_big l b o cap w hl h10 hcap hcm (by omega) hS hL
end Go.Proofs.YtolabllgnfpfaaaDoor
