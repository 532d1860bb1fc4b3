/-
  TextReaders: the walk.
-/
import Derived.Test.YtolabllgnfpfaaaDoorTrG
namespace Go.Proofs.YtolabllgnfpfaaaDoor
open Go.RowKit Go.Deep Go.Lib Go.Shelf Go.Sort
set_option linter.unusedVariables false
set_option linter.unusedSimpArgs false

structure Pc where
  q : Option Addr
  c : Nat
  b : List UInt8
  k : Int
/-- pieces in memory. -/
def Pcs (w : World) (p : Option Addr) (ps : List Pc) : Prop := ∀ i (h : i < ps.length), ∃ b o, p = some ⟨b, o, none⟩ ∧ w.cell? ⟨b, o + i * 2, none⟩ = some (.slice ps[i].q ps[i].b.length ps[i].c) ∧ w.cell? ⟨b, o + i * 2 + 1, none⟩ = some (.int .i64 ps[i].k) ∧ Sg w ps[i].q ps[i].c ps[i].b ∧ ps[i].b.length ≤ 140737488351232
theorem sg_old {w0 w : World} {q : Option Addr} {c : Nat} {l : List UInt8} (h : Sg w0 q c l) (hb : Below w0.heap.size w0 w) : Sg w q c l := h.on hb
theorem law_start {w w1 : World} (h : RdG w.heap.size w1 w.heap.size [] (.slice none 0 0)) (hb : Below w.heap.size w w1) : LawR w w.heap.size [] (.slice none 0 0) (some ⟨w1.heap.size, 0, none⟩) 0 (w1.alloc (.cells #[] 5)) := by
  have hs := h.lt.1
  refine ⟨h.to (ball _ _), ⟨fun i hi => by simp at hi, fun e => by cases e⟩, Nat.le_refl _, by decide, by simp, fun a e => ?_, btr' hb (ball _ _)⟩
  simp only [Option.some.injEq] at e
  subst e
  refine ⟨by simp, ?_, by simp [Value.ownBlock]⟩
  simp only
  omega

set_option maxHeartbeats 16000000 in
set_option maxRecDepth 100000 in
theorem readers_walk (ps : List Pc) (p : Option Addr) (cp : Nat) (w : World) (hp : Pcs w p ps) (hl : ps.length < 9223372036854775808) (hM : LayM w) :
    Calls Tryd.prog 3 #[.slice p ps.length cp] w fun e w' => e = .returned (.bool true) ∧ Below w.heap.size w w' := by
  have HP := hid hp
  have HM := hid hM
  have NW := hid (rnew_any w)
  have WT := hid (fun w' l hv h => rwait_any w.heap.size w' w.heap.size l hv h)
  have NX := hid (fun w' l hv h h1 h2 hM => rnext_any w.heap.size w' w.heap.size l hv h h1 h2 hM)
  unfold NextP at NX
  have DN := hid (fun l q c w' h1 h2 h3 hS => dnext_any l q c w' h1 h2 h3 hS)
  unfold DNextP at DN
  clear hp hM
  go_enter Tryd.func3, Tryd.ntmps3
  go_wp2_with (first | (go_at_call 5; refine NW.out.mono ?_; rintro e w1 ⟨rfl, hr, hb, hs⟩; have HR1 := hid hr; have HB1 := hid hb; clear hr hb hs; refine Hid.out ?_))
  have WT0 := hid (WT.out w1 [] _ HR1.out)
  refine hid ?_
  go_wp2_with (first | (go_at_call 6; refine WT0.out.mono ?_; rintro e w2 ⟨rfl, rfl⟩; refine Hid.out ?_))
  have PK := hid (law_start HR1.out HB1.out)
  clear HR1 HB1 WT0 NW
  refine hid ?_
  go_wp2
  go_loopw [4, 5] (fun hvv iv wr => ∃ (i : Nat) (l : List UInt8) (hv : Value) (q : Option Addr) (c : Nat), i ≤ ps.length ∧ iv = .int .i64 i ∧ hvv = .slice q l.length c ∧ Hid (LawR w w.heap.size l hv q c wr)) (fun _ iv _ => ps.length - (RowKit.intOf iv).toNat)
  case atStart => exact ⟨0, [], _, _, _, Nat.zero_le _, rfl, by first | rfl | simp, PK⟩
  case round =>
    obtain ⟨i, l, hv, q, c, hi, rfl, rfl, HL⟩ := hrel
    clear PK
    by_cases hlt : i < ps.length
    · have i1 : (i : Int) < (ps.length : Int) := by omega
      have i0 : (0 : Int) ≤ (i : Int) := by omega
      obtain ⟨pb, po, rfl, d0, d1, hsg, hbl⟩ := HP.out i hlt
      obtain ⟨⟨bq, bc, b, k⟩, hpc⟩ : ∃ x, ps[i] = x := ⟨_, rfl⟩
      rw [hpc] at d0 d1 hsg hbl
      simp only at d0 d1 hsg hbl
      have D0 := hid (fun (w' : World) (h : Below w.heap.size w w') => (h.cell (cell_lt d0)).trans d0)
      have D1 := hid (fun (w' : World) (h : Below w.heap.size w w') => (h.cell (cell_lt d1)).trans d1)
      have HSB := hid hsg
      have LE := hid (fun w' hS => lent_any b bq bc w' hbl hS)
      have hlen := HL.out.len
      have FE := hid (fun w' g c h hS => feed_both w.heap.size w' w.heap.size l b g c hv roomB h hlen hbl hS)
      have KE := hid (fun g c w' h1 h2 => kept_any b g c bq bc w' hbl h1 h2)
      have FU := hid (fun g c B xs w' h1 h2 => full5_any (.slice (some ⟨g, 0, none⟩) b.length c) b.length B xs w' hbl h1 h2)
      have DF := hid (fun w' h1 h2 h3 h4 => dfeed_both l b q bq c bc w' hlen hbl h1 h2 h3 h4)
      have FED := hid (fun (w2 w3 w4 w5 w6 : World) (g : Nat) (hv3 : Value) (q6 : Option Addr) (c6 : Nat) b2 hg r3 ow b3 s3 b4 g5 b6 sg lc cm pl => LawR.fed (w2 := w2) (w3 := w3) (w4 := w4) (w5 := w5) (w6 := w6) (g := g) (hv3 := hv3) (q6 := q6) (c6 := c6) (cc := 0) (b := b) HL.out b2 hg r3 ow b3 s3 b4 g5 b6 sg lc cm pl)
      obtain ⟨Z, hZ⟩ : ∃ z, fdL l b = z := ⟨_, rfl⟩
      obtain ⟨E, hE⟩ : ∃ z, fdE l b = z := ⟨_, rfl⟩
      rw [hZ] at FE DF FED
      rw [hE] at FE DF
      have e0 := D0.out wr HL.out.bel
      clear d0 d1 hsg hpc hZ hE
      go_wp2_with (first | (go_at_call 7; refine (LE.out _ (HSB.out.on HL.out.bel)).mono ?_; rintro e w2 ⟨g, cc, rfl, hO⟩; have HO2 := hid hO; clear hO; refine Hid.out ?_))
      obtain ⟨g', c', hge, hg1, hg2, hg3, hg4, hown2⟩ := own_sliceC HO2.out (by rw [room_len]; omega)
      obtain ⟨rfl, _, rfl⟩ : g = g' ∧ 32 = roomB.length ∧ cc = c' := by simpa using hge
      have HOW2 := hid hown2
      have HSA2 := hid (show Sb w2 (some ⟨g, 0, none⟩) (b ++ roomB) by obtain ⟨q9, c9, e9, h9⟩ := HO2.out.form; obtain rfl : some ⟨g, 0, none⟩ = q9 := (Value.slice.inj e9).1; exact h9)
      have HL2 := hid (HL.out.on HO2.out.2.1)
      have HB2 := hid HO2.out.2.1
      have hRw := HL.out.rd.lt
      have HRW := hid hRw
      clear hown2 hge HO2 e0 hRw
      refine hid ?_
      go_wp2_with (first | (go_at_call 8; refine (FE.out _ g cc HL2.out.rd HSA2.out).mono ?_; rintro e w3 ⟨rfl, ⟨hv3, hr3, how3⟩, hb3, hs3, hoth3⟩; have HR3 := hid hr3; have HO3 := hid how3; have HB3 := hid hb3; have HS3 := hid hs3; have HT3 := hid (hoth3 g hg2 (by have := HRW.out.1; omega) (fun e => by have := HRW.out.2 g e; omega)); have HTQ3 := hid (fun a (ha : q = some a) => hoth3 a.block (HL2.out.own a ha).1 (HL2.out.own a ha).2.1 (fun e => (HL2.out.own a ha).2.2 e)); clear hr3 how3 hb3 hs3 hoth3; refine Hid.out ?_))
      have HB03 := hid (show Below w.heap.size w w3 from HL2.out.bel.trans HB3.out)
      have HSA3 := hid (show Sb w3 (some ⟨g, 0, none⟩) (b ++ roomB) from sb_same HSA2.out (fun a e => by cases e; exact HT3.out))
      have HSQ3 := hid (show Sg w3 q c l from ⟨sb_same HL2.out.sg.1 (fun a e => HTQ3.out a e), HL2.out.sg.2⟩)
      have HOW3 := hid (owns_same HOW2.out (w' := w3) (fun g' e => by simp [Value.ownBlock] at e; subst e; exact HT3.out))
      clear HSA2 HOW2
      refine hid ?_
      go_wp2_with (first | (go_at_call 9; refine (KE.out g cc _ HSA3.out (HSB.out.on HB03.out).1).mono ?_; rintro e w4 ⟨rfl, hb⟩; have HB4 := hid hb; clear hb; refine Hid.out ?_))
      have HOW4 := hid (owns_same HOW3.out (w' := w4) (fun g' e => by simp [Value.ownBlock] at e; subst e; exact HB4.out.block _ (by have := HS3.out; omega)))
      have HSQ4 := hid (HSQ3.out.on HB4.out)
      have HB04 := hid (btr' HB03.out HB4.out)
      clear HOW3 HSQ3 HSA3
      refine hid ?_
      go_wp2_with (first | (go_at_call 10; refine (FU.out g cc _ _ _ (by have := HS3.out; have := HB4.out.size; have := HB2.out.size; omega) HOW4.out).mono ?_; rintro e w5 ⟨rfl, hg⟩; have HG5 := hid (show w4.grownBy w5 (some g) from hg); clear hg; refine Hid.out ?_))
      have HSQ5 := hid (show Sg w5 q c l from ⟨sb_same HSQ4.out.1 (fun a e => HG5.out.block _ (by have := (HL.out.own a e).1; have := HB2.out.size; have := HS3.out; have := HB4.out.size; omega) (fun e2 => by have := (HL.out.own a e).1; simp at e2; omega)), HSQ4.out.2⟩)
      have HB05 := hid (show Below w.heap.size w w5 from HB04.out.grown HG5.out (by have := HB04.out.size; omega) (fun k hk => by have := HL.out.bel.size; simp at hk; omega))
      have hlc := HL.out.lc
      have hcm := HL.out.cm
      clear HOW4 HSQ4
      refine hid ?_
      go_wp2_with (first | (go_at_call 11; refine (DF.out _ HSQ5.out hlc hcm (HSB.out.on HB05.out)).mono ?_; rintro e w6 ⟨q6, c6, rfl, hsg6, hlc6, hcm6, hpl6, hb6⟩; have HL6 := hid (FED.out _ _ _ _ _ g _ _ _ HB2.out ⟨hg1, hg2⟩ HR3.out HO3.out HB3.out HS3.out HB4.out HG5.out hb6 hsg6 hlc6 hcm6 hpl6); clear hsg6 hlc6 hcm6 hpl6 hb6; refine Hid.out ?_))
      have WT6 := hid (WT.out w6 Z hv3 HL6.out.rd)
      clear HSQ5 HB05 HB04 HB03 HL2 HL HR3 HO3 HB3 HS3 HT3 HTQ3 HB4 HG5 HRW HB2 FED FE KE FU DF LE HSB hlc hcm
      refine hid ?_
      go_wp2_with (first | (go_at_call 6; refine WT6.out.mono ?_; rintro e w7 ⟨rfl, rfl⟩; refine Hid.out ?_))
      clear WT6
      refine hid ?_
      go_wp2
      go_loopw [4, 12] (fun hvv jv wr => ∃ (j : Nat) (l : List UInt8) (hv : Value) (q : Option Addr) (c : Nat), j ≤ 65540 ∧ jv = .int .i64 j ∧ hvv = .slice q l.length c ∧ Hid (LawR w w.heap.size l hv q c wr)) (fun _ jv _ => 65540 - (RowKit.intOf jv).toNat)
      case atStart => exact ⟨0, Z, hv3, q6, c6, by omega, rfl, rfl, HL6⟩
      case round =>
        obtain ⟨j, l2, hv2, q2, c2, hj, rfl, rfl, HLj⟩ := hrel
        clear HL6
        have e1 := D1.out wr HLj.out.bel
        have hlen2 := HLj.out.len
        by_cases hk : (j : Int) < k
        · by_cases hjl : j ≤ l2.length + 1
          · have g1 : (j : Int) ≤ (l2.length : Int) + 1 := by omega
            have N1 := hid (NX.out wr l2 hv2 HLj.out.rd HLj.out.bel.size hlen2 (HM.out.on HLj.out.bel))
            have D2 := hid (fun w' h => DN.out l2 q2 c2 w' hlen2 HLj.out.lc HLj.out.cm h)
            have NXT := hid (fun (w1 w2 : World) (hv' : Value) (q' : Option Addr) (c' : Nat) r1 ow b1 b2 sg lc cm pl hs1 => LawR.next (w1 := w1) (w2 := w2) (hv' := hv') (q' := q') (c' := c') HLj.out (nx_len l2) r1 ow b1 b2 sg lc cm pl hs1)
            have hts := nx_small l2
            obtain ⟨Z2, kd, tg, ok, er, hnx⟩ : ∃ a b c d e, nxR l2 = (a, b, c, d, e) := ⟨_, _, _, _, _, rfl⟩
            rw [hnx] at N1 D2 NXT hts
            simp only at N1 D2 NXT hts
            have TS := hid (fun q1 q2 c1 c2 w' h1 h2 => tags_same tg q1 q2 c1 c2 w' (by omega) h1 h2)
            clear hnx
            go_wp2_with (first | (go_at_call 12; refine N1.out.mono ?_; rintro e w8 ⟨⟨qt, ct, rfl, hT⟩, ⟨hv8, hr8, how8⟩, hb8, hs8, hoth8⟩; have HT8 := hid hT; have HR8 := hid hr8; have HO8 := hid how8; have HB8 := hid hb8; have HS8 := hid hs8; have SQ8 := hid (show Sg w8 q2 c2 l2 from ⟨sb_same HLj.out.sg.1 (fun a e => hoth8 a.block (HLj.out.own a e).1 (HLj.out.own a e).2.1), HLj.out.sg.2⟩); clear hT hr8 how8 hb8 hs8 hoth8; refine Hid.out ?_))
            clear N1 e1
            refine hid ?_
            go_wp2_with (first | (go_at_call 13; refine (D2.out _ SQ8.out).mono ?_; rintro e w9 ⟨q9, c9, qt9, ct9, rfl, hsg9, hlc9, hcm9, hpl9, hT9, hb9⟩; have HL9 := hid (NXT.out _ _ _ _ _ HR8.out HO8.out HB8.out hb9 hsg9 hlc9 hcm9 hpl9 HS8.out); have HTA := hid (HT8.out.on hb9); have HTB := hid hT9; clear hsg9 hlc9 hcm9 hpl9 hT9 hb9; refine Hid.out ?_))
            clear NXT SQ8 HT8 HR8 HO8 HB8 HS8 D2
            refine hid ?_
            go_wp2_with (first | (go_at_call 14; refine (TS.out _ _ _ _ _ HTA.out HTB.out).mono ?_; rintro e w10 ⟨rfl, hb⟩; have HL10 := hid (HL9.out.on hb); clear hb; refine Hid.out ?_))
            have WT10 := hid (WT.out w10 Z2 hv8 HL10.out.rd)
            clear HTA HTB TS HL9
            refine hid ?_
            go_wp2_with (first | (go_at_call 6; refine WT10.out.mono ?_; rintro e w11 ⟨rfl, rfl⟩; refine Hid.out ?_))
            clear WT10
            refine hid ?_
            go_wp2
            go_roundw
            case rel => exact ⟨j + 1, Z2, hv8, q9, c9, by omega, by go_num, by first | rfl | trivial, HL10⟩
            case measure => simp [RowKit.intOf]; omega
          · have g1 : ¬ ((j : Int) ≤ (l2.length : Int) + 1) := by omega
            go_wp2
            go_roundw
            case rel => exact ⟨i + 1, l2, hv2, q2, c2, by omega, by go_num, by first | rfl | trivial, HLj⟩
            case measure => simp [RowKit.intOf]; omega
        · go_wp2
          go_roundw
          case rel => exact ⟨i + 1, l2, hv2, q2, c2, by omega, by go_num, by first | rfl | trivial, HLj⟩
          case measure => simp [RowKit.intOf]; omega
    · have hie : i = ps.length := by omega
      have i1 : ¬ (i : Int) < (ps.length : Int) := by omega
      have HB := hid HL.out.bel
      clear HL
      go_wp2
      go_ret
      exact ⟨rfl, HB.out⟩
end Go.Proofs.YtolabllgnfpfaaaDoor
