/-
  lines: all that bytes tell, whatever pieces they come in.
-/
import Derived.Test.YtolabllgnfpfaaaDoorTpF
namespace Go.Proofs.YtolabllgnfpfaaaDoor
open Go.RowKit Go.Deep Go.Lib Go.Shelf Go.Sort
set_option linter.unusedVariables false
set_option linter.unusedSimpArgs false

/-- what stands between two pieces. -/
structure LnS (w : World) (b : List UInt8) (f : Nat) (tv : Value) (w' : World) : Prop where
  st : ∃ acc l hv, LinR w w.heap.size l hv tv acc w' ∧ Come b f acc l
/-- .. and when all was drained. -/
structure LnD (w : World) (b : List UInt8) (f : Nat) (tv : Value) (w' : World) : Prop where
  st : ∃ acc l hv, LinR w w.heap.size l hv tv acc w' ∧ Come b f acc l ∧ Waits l
theorem LnD.s {w : World} {b : List UInt8} {f : Nat} {tv : Value} {w' : World} (h : LnD w b f tv w') : LnS w b f tv w' := by
  obtain ⟨acc, l, hv, h1, h2, _⟩ := h.st
  exact ⟨acc, l, hv, h1, h2⟩

set_option maxHeartbeats 2000000 in
set_option maxRecDepth 100000 in
theorem lines_any (b : List UInt8) (q : Option Addr) (cap : Nat) (zs : List Int) (p : Option Addr) (zc : Nat) (often : Bool) (w : World) (hS : Sg w q cap b) (hb : b.length ≤ 65536) (hc : b.length ≤ cap) (hz : zs.length < 9223372036854775807) (hV : Vs w p zs) (hM : LayM w) :
    Calls Tryd.prog 15 #[.slice q b.length cap, .slice p zs.length zc, .bool often] w fun e w' => ∃ v, e = .returned (.tuple #[v, .bool true]) ∧ w'.ownsRow w.heap.size 9 1 v (drain b).1.length (sv (drain b).1) ∧ Below w.heap.size w w' := by
  have HS := hid hS
  have HM := hid hM
  have HV := hid hV
  have HB := hid hb
  have HC := hid hc
  have HZ := hid hz
  have NR := hid (rnew_any w)
  clear hS hM hV hb hc hz
  go_enter Tryd.func15, Tryd.ntmps15
  go_wp2_with (first | (go_at_call 5; refine (NR.out).mono ?_; rintro e w1 ⟨rfl, h1, hb, _⟩; have HL0 := hid (show LnS w b 0 (.slice none 0 0) w1 from ⟨[], [], _, LinR.start h1 hb, Come.start b⟩); clear h1 hb))
  go_loopw [6, 9, 10] (fun tv fv iv wr => ∃ (i f : Nat), i ≤ zs.length + 1 ∧ iv = .int .i64 i ∧ fv = .int .i64 f ∧ f ≤ b.length ∧ Hid (LnS w b f tv wr) ∧ Hid (i = zs.length + 1 → f = b.length ∧ LnD w b f tv wr)) (fun _ _ iv _ => zs.length + 1 - (RowKit.intOf iv).toNat)
  case atStart => exact ⟨0, 0, Nat.zero_le _, rfl, rfl, Nat.zero_le _, HL0, hid (fun h => by omega)⟩
  case round =>
    obtain ⟨i, f, hi, rfl, rfl, hf, HL, HD⟩ := hrel
    clear HL0
    by_cases hlt : i ≤ zs.length
    · have i3 : (i : Int) ≤ (zs.length : Int) := by omega
      have i4 : (0 : Int) ≤ (i : Int) := by omega
      have i5 : (zs.length : Int) < 9223372036854775807 := by have := HZ.out; omega
      have HLT := hid hlt
      have HF := hid hf
      clear hlt hf hi HD
      go_wp2_with (first | (refine stop_at 33 (by with_reducible rfl) ?_))
      rename_i K1 A1 K0 A0
      have REST : ∀ (t : Nat), f ≤ t → t ≤ b.length → (t = b.length ∨ i < zs.length) → ∀ (v33 v34 v35 v36 v37 v38 v39 v40 v41 v42 v43 v44 v45 v46 v47 v48 v49 v50 v51 v52 v53 v54 : Value), K1 { tmps := #[Value.slice q b.length cap, Value.slice p zs.length zc, Value.bool often, undef, undef, undef, u6, u7, Value.pointer (some ⟨w.heap.size, 0, none⟩), Value.int IntKind.i64 (f : Nat), Value.int IntKind.i64 (i : Nat), .int .i64 (t : Nat), u12, u13, u14, u15, u16, u17, u18, u19, Value.pointer (some ⟨w.heap.size, 0, none⟩), Value.pointer (some ⟨w.heap.size, 0, none⟩), Value.bool false, Value.int IntKind.i64 (i : Nat), Value.slice p zs.length zc, Value.int IntKind.i64 (zs.length : Nat), Value.bool true, u27, u28, Value.slice q b.length cap, Value.int IntKind.i64 (b.length : Nat), Value.int IntKind.i64 (i : Nat), Value.slice p zs.length zc, v33, v34, v35, v36, v37, v38, v39, v40, v41, v42, v43, v44, v45, v46, v47, v48, v49, v50, v51, v52, v53, v54, u55, u56, u57, u58, u59, u60, u61, u62, u63, u64, u65, u66, u67, u68, u69, u70, u71, u72, u73, u74, u75, u76, u77, u78, u79, u80, u81, u82, u83, u84, u85, u86, u87, u88, u89, u90, u91, u92, u93, u94, u95, u96, u97, u98, u99, u100, u101, u102, u103, u104, u105, u106, u107, u108, u109, u110, undef], defers := [] } wr := by
        intro t hft htb hw v33 v34 v35 v36 v37 v38 v39 v40 v41 v42 v43 v44 v45 v46 v47 v48 v49 v50 v51 v52 v53 v54
        obtain ⟨acc, l, hv, hlr, hcm⟩ := HL.out.st
        obtain ⟨PC, hPC⟩ : ∃ PC, (b.drop f).take (t - f) = PC := ⟨_, rfl⟩
        have hpl : PC.length = t - f := by rw [← hPC]; simp; omega
        have hll := hcm.len
        have hfd : fdE l PC = 0 := by unfold fdE; rw [if_pos]; have := HB.out; omega
        have hfl : fdL l PC = l ++ PC := by unfold fdL; rw [if_pos]; have := HB.out; omega
        have hc2 := hcm.feed hft htb
        rw [hPC] at hc2
        have HFT := hid hft
        have HTB := hid htb
        have HW0 := hid hw
        have HPL := hid hpl
        have HPC := hid hPC
        have HC2 := hid hc2
        have HLR := hid hlr
        have HFE := hid hfd
        have HFL := hid hfl
        have HLF := hid hll
        clear hft htb hw hPC hpl hll hfd hfl hc2 hcm hlr A0 HL
        refine A1 _ _ ?_
        go_wp2_with (first | (refine wpList_cut _ (by rfl) (.tmp 57) (.tmp 58) (.tmp 59) (by rfl) q cap b f t (by rfl) (by rfl) (by rfl) (HS.out.on (btr' HLR.out.bel (ball wr _))) HFT.out HTB.out HC.out ?_; intro q' c' hsg; rw [HPC.out] at hsg; have HSG := hid hsg; clear hsg; rw [← HPL.out]) | (at_builtin; refine own_piece wr (by rfl) (.tmp 56) (.tmp 60) (by rfl) (by rfl) q' PC.length c' PC rfl (by rfl) HSG.out (by have := HPL.out; have := HB.out; have := HTB.out; omega) ?_; intro g gc w2 hs2 hb2; have HL2 := hid (HLR.out.on hb2); have FD := hid (feed_both w.heap.size w2 w.heap.size l PC g gc hv [] HL2.out.rd (by have := HLF.out; have := HFT.out; have := HTB.out; have := HB.out; omega) (by have := HPL.out; have := HB.out; have := HTB.out; omega) (by rw [List.append_nil]; exact hs2)); rw [HFE.out, HFL.out] at FD; clear hs2 hb2; refine Hid.out ?_))
        refine hid ?_
        go_wp2_with (first | (go_at_call 8; refine (FD.out).mono ?_; rintro e w3 ⟨rfl, ⟨hv2, hrd, how⟩, hbl, hsz, hot⟩; have HR2 := hid (HL2.out.went hrd how hbl hsz hot); clear hrd how hbl hsz hot; refine Hid.out ?_))
        clear FD HL2 HSG HLR
        obtain ⟨l2, hl2⟩ : ∃ l2, l ++ PC = l2 := ⟨_, rfl⟩
        have HLL := hid (show l2.length ≤ 65536 from by have h1 := HC2.out.len; rw [hl2] at h1; have := HTB.out; have := HB.out; omega)
        rw [hl2] at HR2 HC2
        have HL2E := hid hl2
        clear hl2
        cases often with
        | true =>
          refine hid ?_
          have j0 : (l2.length : Int) ≤ 65536 := by have := HLL.out; omega
          have WT := hid (rwait_any w.heap.size _ w.heap.size l2 hv2 HR2.out.rd)
          go_wp2_with (first | (go_at_call 6; refine (WT.out).mono ?_; rintro e w4 ⟨rfl, rfl⟩))
          clear WT
          go_loopw [6, 12, 13] (fun tv dv nv wj => ∃ (n : Nat) (d : Bool), dv = .bool d ∧ nv = .int .i64 n ∧ n ≤ 65537 ∧ Hid (∃ acc l hv, LinR w w.heap.size l hv tv acc wj ∧ Come b t acc l ∧ (d = true → Waits l) ∧ (d = false → l.length + 1 ≤ n))) (fun _ _ nv _ => (RowKit.intOf nv).toNat)
          case atStart => exact ⟨l2.length + 1, false, rfl, by first | rfl | simp, by have := HLL.out; omega, hid ⟨acc, l2, hv2, HR2.out, HC2.out, fun h => by simp at h, fun _ => Nat.le_refl _⟩⟩
          case round =>
            obtain ⟨n, d, rfl, rfl, hn, HJ⟩ := hrel
            have j1 : (n : Int) ≤ 65537 := by omega
            have j2 : (0 : Int) ≤ (n : Int) := by omega
            cases d with
            | false =>
              obtain ⟨ac, l, hv, hlr, hcm, _, hln⟩ := HJ.out
              have hln := hln rfl
              have HLN := hid hln
              have HCM := hid hcm
              have HLR := hid hlr
              have NX := hid (rnextq_any w.heap.size _ w.heap.size l hv hlr.rd hlr.bel.size (by have := hcm.len; have := HB.out; have := HTB.out; omega) (HM.out.on hlr.bel))
              obtain ⟨N, hN⟩ : ∃ N, nxR l = N := ⟨_, rfl⟩
              obtain ⟨l', kd, tg, ok, er⟩ := N
              unfold NextQ at NX
              rw [hN] at NX
              simp only at NX
              have HNX := hid hN
              clear HJ hln hcm hlr hN HR2 HC2 HLL
              cases ok with
              | true =>
                have hto := nx_told (l := l) (by rw [HNX.out])
                rw [HNX.out] at hto
                simp only at hto
                have hsm := line_small hto.1
                have HTO := hid hto
                have HSM := hid hsm
                have HSH := hid (nx_shrink hto.2.2)
                rw [HNX.out] at HSH
                have HCN := hid (HCM.out.next hto.2.2)
                rw [HNX.out, hto.2.1] at HCN
                have HAC := hid (HCM.out.small HTB.out)
                clear hto hsm
                go_wp2_with (first | (go_at_call 12; refine (NX.out).mono ?_; rintro e w5 ⟨⟨tq, tc, rfl, hts, htc, htm⟩, ⟨hv', hrd, how⟩, hbl, hsz, hot⟩; have HL5 := hid (HLR.out.went hrd (how.imp id (fun e g hg => by rw [e] at hg; simp at hg)) hbl hsz (fun x h1 h2 _ => hot x h1 h2)); have EN := hid (encode_any kd tg tq tc w5 (by have := HSM.out.1; omega) (fun x hx => by have := HSM.out.2.2 x hx; omega) (by have := HSM.out.2.1; omega) htc htm hts (HM.out.on HL5.out.bel).laye.lay); clear hts htc htm hrd how hbl hsz hot; refine Hid.out ?_))
                refine hid ?_
                go_wp2_with (first | (go_at_call 16; refine (EN.out).mono ?_; rintro e w6 ⟨ev, rfl, how, _⟩; obtain ⟨eq, ec, hev, hes, _, _⟩ := own_cap how; subst hev; have cv := conv_any hes ec; have HL6 := hid (HL5.out.on how.2.1); clear hes how; refine Hid.out ?_))
                refine hid ?_
                go_wp2_with (first | (at_builtin; refine lin_str (by rfl) (.tmp 98) (.tmp 101) (by rfl) w w.heap.size l' _ _ ac w6 (encB kd tg) HL6.out (by rfl) (by rfl) (by have := HAC.out; have := HB.out; have := HTB.out; omega) ?_; intro v' w7 hl7; have HL7 := hid hl7; clear hl7; refine Hid.out ?_))
                clear cv
                refine hid ?_
                go_wp2
                go_roundw
                case rel => exact ⟨n - 1, false, rfl, by have := HLN.out; first | (congr 1; omega) | (simp; omega), by omega, hid ⟨_, _, _, HL7.out, HCN.out, fun h => by simp at h, fun _ => by have := HLN.out; have := HSH.out; omega⟩⟩
                case measure => have := HLN.out; simp [RowKit.intOf]; omega
              | false =>
                have hun := nx_untold (l := l) (by rw [HNX.out])
                by_cases hw : Waits l
                · have hnw := nx_wait hw
                  rw [HNX.out] at hnw
                  obtain ⟨rfl, rfl, rfl, _, rfl⟩ : l' = l ∧ kd = [] ∧ tg = [] ∧ false = false ∧ er = 0 := by simpa using hnw
                  have HW := hid hw
                  clear hw hnw hun
                  go_wp2_with (first | (go_at_call 12; refine (NX.out).mono ?_; rintro e w5 ⟨⟨tq, tc, rfl, hts, htc, htm⟩, ⟨hv', hrd, how⟩, hbl, hsz, hot⟩; have HL5 := hid (HLR.out.went hrd (how.imp id (fun e g hg => by rw [e] at hg; simp at hg)) hbl hsz (fun x h1 h2 _ => hot x h1 h2)); clear hts htc htm hrd how hbl hsz hot; refine Hid.out ?_))
                  refine hid ?_
                  go_wp2
                  go_roundw
                  case rel => exact ⟨n - 1, true, rfl, by have := HLN.out; first | (congr 1; omega) | (simp; omega), by omega, hid ⟨_, _, _, HL5.out, HCM.out, fun _ => HW.out, fun h => by simp at h⟩⟩
                  case measure => have := HLN.out; simp [RowKit.intOf]; omega
                · have her : (er == 0) = false := by
                    rw [beq_eq_false_iff_ne]
                    intro e0
                    exact hw ((wait_iff l).1 (by rw [HNX.out]; exact ⟨rfl, e0⟩))
                  have HSH := hid (nx_shrink hw)
                  rw [HNX.out] at HSH
                  have HCN := hid (HCM.out.next hw)
                  rw [HNX.out, hun] at HCN
                  clear hw hun
                  go_wp2_with (first | (go_at_call 12; refine (NX.out).mono ?_; rintro e w5 ⟨⟨tq, tc, rfl, hts, htc, htm⟩, ⟨hv', hrd, how⟩, hbl, hsz, hot⟩; have HL5 := hid (HLR.out.went hrd (how.imp id (fun e g hg => by rw [e] at hg; simp at hg)) hbl hsz (fun x h1 h2 _ => hot x h1 h2)); clear hts htc htm hrd how hbl hsz hot; refine Hid.out ?_))
                  refine hid ?_
                  go_wp2
                  go_roundw
                  case rel => exact ⟨n - 1, false, rfl, by have := HLN.out; first | (congr 1; omega) | (simp; omega), by omega, hid ⟨_, _, _, HL5.out, by simpa using HCN.out, fun h => by simp at h, fun _ => by have := HLN.out; have := HSH.out; omega⟩⟩
                  case measure => have := HLN.out; simp [RowKit.intOf]; omega
            | true =>
              obtain ⟨ac, l, hv, hlr, hcm, hwt, _⟩ := HJ.out
              have HD2 := hid (show LnD w b t _ _ from ⟨ac, l, hv, hlr, hcm, hwt rfl⟩)
              clear HJ hlr hcm hwt
              go_wp2
              go_roundw
              case rel => exact ⟨i + 1, t, by have := HLT.out; omega, by go_num, rfl, HTB.out, hid HD2.out.s, hid (fun h => ⟨by rcases HW0.out with h1 | h1; exact h1; omega, HD2.out⟩)⟩
              case measure => have := HLT.out; simp [RowKit.intOf]; omega
        | false =>
          by_cases htl : t < b.length
          · have t1 : (t : Int) < (b.length : Int) := by omega
            have HT := hid htl
            clear htl
            refine hid ?_
            go_wp2
            go_roundw
            case rel => exact ⟨i + 1, t, by have := HLT.out; omega, by go_num, rfl, HTB.out, hid ⟨acc, l2, hv2, HR2.out, HC2.out⟩, hid (fun h => by have := HT.out; rcases HW0.out with h1 | h1 <;> omega)⟩
            case measure => have := HLT.out; simp [RowKit.intOf]; omega
          · have t1 : ¬ (t : Int) < (b.length : Int) := by omega
            clear htl
            refine hid ?_
            have j0 : (l2.length : Int) ≤ 65536 := by have := HLL.out; omega
            have WT := hid (rwait_any w.heap.size _ w.heap.size l2 hv2 HR2.out.rd)
            go_wp2_with (first | (go_at_call 6; refine (WT.out).mono ?_; rintro e w4 ⟨rfl, rfl⟩))
            clear WT
            go_loopw [6, 12, 13] (fun tv dv nv wj => ∃ (n : Nat) (d : Bool), dv = .bool d ∧ nv = .int .i64 n ∧ n ≤ 65537 ∧ Hid (∃ acc l hv, LinR w w.heap.size l hv tv acc wj ∧ Come b t acc l ∧ (d = true → Waits l) ∧ (d = false → l.length + 1 ≤ n))) (fun _ _ nv _ => (RowKit.intOf nv).toNat)
            case atStart => exact ⟨l2.length + 1, false, rfl, by first | rfl | simp, by have := HLL.out; omega, hid ⟨acc, l2, hv2, HR2.out, HC2.out, fun h => by simp at h, fun _ => Nat.le_refl _⟩⟩
            case round =>
              obtain ⟨n, d, rfl, rfl, hn, HJ⟩ := hrel
              have j1 : (n : Int) ≤ 65537 := by omega
              have j2 : (0 : Int) ≤ (n : Int) := by omega
              cases d with
              | false =>
                obtain ⟨ac, l, hv, hlr, hcm, _, hln⟩ := HJ.out
                have hln := hln rfl
                have HLN := hid hln
                have HCM := hid hcm
                have HLR := hid hlr
                have NX := hid (rnextq_any w.heap.size _ w.heap.size l hv hlr.rd hlr.bel.size (by have := hcm.len; have := HB.out; have := HTB.out; omega) (HM.out.on hlr.bel))
                obtain ⟨N, hN⟩ : ∃ N, nxR l = N := ⟨_, rfl⟩
                obtain ⟨l', kd, tg, ok, er⟩ := N
                unfold NextQ at NX
                rw [hN] at NX
                simp only at NX
                have HNX := hid hN
                clear HJ hln hcm hlr hN HR2 HC2 HLL
                cases ok with
                | true =>
                  have hto := nx_told (l := l) (by rw [HNX.out])
                  rw [HNX.out] at hto
                  simp only at hto
                  have hsm := line_small hto.1
                  have HTO := hid hto
                  have HSM := hid hsm
                  have HSH := hid (nx_shrink hto.2.2)
                  rw [HNX.out] at HSH
                  have HCN := hid (HCM.out.next hto.2.2)
                  rw [HNX.out, hto.2.1] at HCN
                  have HAC := hid (HCM.out.small HTB.out)
                  clear hto hsm
                  go_wp2_with (first | (go_at_call 12; refine (NX.out).mono ?_; rintro e w5 ⟨⟨tq, tc, rfl, hts, htc, htm⟩, ⟨hv', hrd, how⟩, hbl, hsz, hot⟩; have HL5 := hid (HLR.out.went hrd (how.imp id (fun e g hg => by rw [e] at hg; simp at hg)) hbl hsz (fun x h1 h2 _ => hot x h1 h2)); have EN := hid (encode_any kd tg tq tc w5 (by have := HSM.out.1; omega) (fun x hx => by have := HSM.out.2.2 x hx; omega) (by have := HSM.out.2.1; omega) htc htm hts (HM.out.on HL5.out.bel).laye.lay); clear hts htc htm hrd how hbl hsz hot; refine Hid.out ?_))
                  refine hid ?_
                  go_wp2_with (first | (go_at_call 16; refine (EN.out).mono ?_; rintro e w6 ⟨ev, rfl, how, _⟩; obtain ⟨eq, ec, hev, hes, _, _⟩ := own_cap how; subst hev; have cv := conv_any hes ec; have HL6 := hid (HL5.out.on how.2.1); clear hes how; refine Hid.out ?_))
                  refine hid ?_
                  go_wp2_with (first | (at_builtin; refine lin_str (by rfl) (.tmp 98) (.tmp 101) (by rfl) w w.heap.size l' _ _ ac w6 (encB kd tg) HL6.out (by rfl) (by rfl) (by have := HAC.out; have := HB.out; have := HTB.out; omega) ?_; intro v' w7 hl7; have HL7 := hid hl7; clear hl7; refine Hid.out ?_))
                  clear cv
                  refine hid ?_
                  go_wp2
                  go_roundw
                  case rel => exact ⟨n - 1, false, rfl, by have := HLN.out; first | (congr 1; omega) | (simp; omega), by omega, hid ⟨_, _, _, HL7.out, HCN.out, fun h => by simp at h, fun _ => by have := HLN.out; have := HSH.out; omega⟩⟩
                  case measure => have := HLN.out; simp [RowKit.intOf]; omega
                | false =>
                  have hun := nx_untold (l := l) (by rw [HNX.out])
                  by_cases hw : Waits l
                  · have hnw := nx_wait hw
                    rw [HNX.out] at hnw
                    obtain ⟨rfl, rfl, rfl, _, rfl⟩ : l' = l ∧ kd = [] ∧ tg = [] ∧ false = false ∧ er = 0 := by simpa using hnw
                    have HW := hid hw
                    clear hw hnw hun
                    go_wp2_with (first | (go_at_call 12; refine (NX.out).mono ?_; rintro e w5 ⟨⟨tq, tc, rfl, hts, htc, htm⟩, ⟨hv', hrd, how⟩, hbl, hsz, hot⟩; have HL5 := hid (HLR.out.went hrd (how.imp id (fun e g hg => by rw [e] at hg; simp at hg)) hbl hsz (fun x h1 h2 _ => hot x h1 h2)); clear hts htc htm hrd how hbl hsz hot; refine Hid.out ?_))
                    refine hid ?_
                    go_wp2
                    go_roundw
                    case rel => exact ⟨n - 1, true, rfl, by have := HLN.out; first | (congr 1; omega) | (simp; omega), by omega, hid ⟨_, _, _, HL5.out, HCM.out, fun _ => HW.out, fun h => by simp at h⟩⟩
                    case measure => have := HLN.out; simp [RowKit.intOf]; omega
                  · have her : (er == 0) = false := by
                      rw [beq_eq_false_iff_ne]
                      intro e0
                      exact hw ((wait_iff l).1 (by rw [HNX.out]; exact ⟨rfl, e0⟩))
                    have HSH := hid (nx_shrink hw)
                    rw [HNX.out] at HSH
                    have HCN := hid (HCM.out.next hw)
                    rw [HNX.out, hun] at HCN
                    clear hw hun
                    go_wp2_with (first | (go_at_call 12; refine (NX.out).mono ?_; rintro e w5 ⟨⟨tq, tc, rfl, hts, htc, htm⟩, ⟨hv', hrd, how⟩, hbl, hsz, hot⟩; have HL5 := hid (HLR.out.went hrd (how.imp id (fun e g hg => by rw [e] at hg; simp at hg)) hbl hsz (fun x h1 h2 _ => hot x h1 h2)); clear hts htc htm hrd how hbl hsz hot; refine Hid.out ?_))
                    refine hid ?_
                    go_wp2
                    go_roundw
                    case rel => exact ⟨n - 1, false, rfl, by have := HLN.out; first | (congr 1; omega) | (simp; omega), by omega, hid ⟨_, _, _, HL5.out, by simpa using HCN.out, fun h => by simp at h, fun _ => by have := HLN.out; have := HSH.out; omega⟩⟩
                    case measure => have := HLN.out; simp [RowKit.intOf]; omega
              | true =>
                obtain ⟨ac, l, hv, hlr, hcm, hwt, _⟩ := HJ.out
                have HD2 := hid (show LnD w b t _ _ from ⟨ac, l, hv, hlr, hcm, hwt rfl⟩)
                clear HJ hlr hcm hwt
                go_wp2
                go_roundw
                case rel => exact ⟨i + 1, t, by have := HLT.out; omega, by go_num, rfl, HTB.out, hid HD2.out.s, hid (fun h => ⟨by rcases HW0.out with h1 | h1; exact h1; omega, HD2.out⟩)⟩
                case measure => have := HLT.out; simp [RowKit.intOf]; omega
      clear A1
      by_cases hil : i < zs.length
      · have i6 : (i : Int) < (zs.length : Int) := by omega
        obtain ⟨vb, vo, rfl, hvb, hv⟩ := HV.out i hil
        obtain ⟨acc, l, hv0, hlr, _⟩ := HL.out.st
        obtain ⟨z, hz⟩ : ∃ z, zs[i] = z := ⟨_, rfl⟩
        rw [hz] at hv
        have v0 : wr.cell? ⟨vb, vo + i, none⟩ = some (.int .i64 z) := (hlr.bel.cell hvb).trans hv
        have RE := hid REST
        have HIL := hid hil
        clear REST hv hvb hz hil hlr
        by_cases h1 : (f : Int) ≤ z
        · by_cases h2 : z < (b.length : Int)
          · obtain ⟨t, rfl⟩ : ∃ t : Nat, z = t := ⟨z.toNat, by omega⟩
            refine ⟨?_⟩
            go_wp2
            exact RE.out t (by omega) (by omega) (Or.inr HIL.out) _ _ _ _ _ _ _ _ _ _ _ _ _ _ _ _ _ _ _ _ _ _
          · refine ⟨?_⟩
            go_wp2
            exact RE.out b.length HF.out (Nat.le_refl _) (Or.inl rfl) _ _ _ _ _ _ _ _ _ _ _ _ _ _ _ _ _ _ _ _ _ _
        · refine ⟨?_⟩
          go_wp2
          exact RE.out b.length HF.out (Nat.le_refl _) (Or.inl rfl) _ _ _ _ _ _ _ _ _ _ _ _ _ _ _ _ _ _ _ _ _ _
      · have i6 : ¬ (i : Int) < (zs.length : Int) := by omega
        have RE := hid REST
        clear REST hil
        refine ⟨?_⟩
        go_wp2
        exact RE.out b.length HF.out (Nat.le_refl _) (Or.inl rfl) _ _ _ _ _ _ _ _ _ _ _ _ _ _ _ _ _ _ _ _ _ _
    · obtain rfl : i = zs.length + 1 := by omega
      have i3 : ¬ ((zs.length + 1 : Nat) : Int) ≤ (zs.length : Int) := by omega
      obtain ⟨rfl, hd⟩ := HD.out rfl
      obtain ⟨acc, l, hv, hlr, hcm, hwt⟩ := hd.st
      have FIN := hid (show _ from hlr.os)
      rw [hcm.done hwt] at FIN
      have HBL := hid hlr.bel
      clear hlt HD HL hd hlr hcm hwt
      go_wp2
      go_ret2
      exact ⟨_, rfl, FIN.out, HBL.out⟩
end Go.Proofs.YtolabllgnfpfaaaDoor
