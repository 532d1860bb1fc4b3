/-
  WirePieces, whatever comes in.
-/
import Derived.Test.YtniofmaefonkdaaDoorWpD
import Derived.Test.YtniofmaefonkdaaDoorLives
import Derived.Deep.RegionHeld3
import Derived.Deep.Cut
namespace Go.Proofs.YtniofmaefonkdaaDoor
open Go.RowKit Go.Deep Crc
set_option linter.unusedVariables false
set_option linter.unusedSimpArgs false
set_option maxRecDepth 1000000
set_option maxHeartbeats 8000000
theorem pz_new {w wa wb : World} (ha : Below w.heap.size w wa) (hR : Rd wa.heap.size wb wa.heap.size []) (hb : Below wa.heap.size wa wb) : Pz w wa.heap.size [] (.slice none 0 0) [] (.slice none 0 0) [] wb := by
  obtain ⟨h0, ho, hv, h1, h2⟩ := hR
  refine ⟨⟨hv, ⟨ha.size, ho, h1, ?_⟩, fun g _ e => by cases e⟩, ⟨rfl, .inl ⟨rfl, rfl⟩⟩, ⟨rfl, .inl ⟨rfl, rfl⟩⟩, ha.trans (hb.mono ha.size), fun x hx => by simp at hx⟩
  rcases h2 with h2 | ⟨g, o, cap, cur, e, r1, r2⟩
  · exact .inl h2
  · exact .inr ⟨g, o, cap, cur, e, Nat.le_trans ha.size r1, r2⟩
theorem Pz.laid {w : World} {R : Nat} {ys : List Nat} {vw : Value} {cat : List Nat} {vg : Value} {vs : List (Value × Int)} {W : World} (h : Pz w R ys vw cat vg vs W) (hL : Laid w) : Laid W := laid_on hL h.bel
theorem pieces_any (p0 : Option Addr) (cap0 : Nat) (PS : List (List Nat)) (p1 : Option Addr) (cap1 : Nat) (ak : List Bool) (w : World) (hP : Pcs w p0 PS) (hA : Aks w p1 ak) (hO : ∀ xs ∈ PS, Oct xs) (hT : tot PS ≤ 1048576) (hN : PS.length ≤ 1048576) (hM : ak.length < 9223372036854775808) (hL : Laid w) :
    Calls Tryd.prog 8 #[.slice p0 PS.length cap0, .slice p1 ak.length cap1] w fun e w' => e = .returned (.bool true) ∧ Below w.heap.size w w' := by
  have HL := hid hL
  have HP := hid hP
  have HA := hid hA
  have HOC := hid hO
  have HLV := hid (lives_any w hL)
  have HNW := hid (fun u => rnew_any u)
  clear hL hP hA hO
  go_enter Tryd.func8, Tryd.ntmps8
  go_wp2_with (first | (go_at_call 22; with_reducible refine (HLV.out).mono ?_; rintro e wa ⟨rfl, hb⟩; have HBa := hid hb; clear hb; refine Hid.out ?_))
  refine hid ?_
  go_wp2_with (first | (go_at_call 19; with_reducible refine (HNW.out _).mono ?_; rintro e wb ⟨rfl, hR, hb, hsz⟩; have HZ0 := hid (pz_new HBa.out hR hb); clear hR hb hsz; refine Hid.out ?_))
  obtain ⟨R, hRn⟩ : ∃ R, wa.heap.size = R := ⟨_, rfl⟩
  rw [hRn] at HZ0 ⊢
  clear hRn HLV HNW HBa
  refine hid ?_
  go_wp2_with fail
  go_loopw [6, 7, 8] (fun wv gv iv wr => ∃ (i j : Nat) (ys : List Nat) (pw : Option Addr) (cw : Nat) (pg : Option Addr) (cg : Nat) (vs : List (Value × Int)), i ≤ PS.length ∧ iv = .int .i64 i ∧ wv = .slice pw (catp PS i).length cw ∧ gv = .slice pg vs.length cg ∧ Hid (Pz w R ys (.slice pw (catp PS i).length cw) (catp PS i) (.slice pg vs.length cg) vs wr) ∧ Hid (Pj (catp PS i) ys vs j)) (fun _ _ iv _ => PS.length - (intOf iv).toNat)
  case atStart => exact ⟨0, 0, [], none, 0, none, 0, [], Nat.zero_le _, rfl, rfl, rfl, HZ0, hid Pj.nil⟩
  case round =>
    clear HZ0
    obtain ⟨i, j, ys, pw0, cw, pg, cg, vs, hi, rfl, rfl, rfl, HZ, HJ⟩ := hrel
    obtain ⟨cat, hcat⟩ : ∃ cat, catp PS i = cat := ⟨_, rfl⟩
    have hcl := catp_len PS i
    rw [hcat] at HZ HJ hcl ⊢
    have HJL := hid HJ.out.len
    have hvl : vs.length ≤ 1099511627776 := by have := HJ.out.len; have := HJ.out.le; omega
    have hyl : ys.length ≤ 1048576 := by rw [HJ.out.ys, List.length_drop]; omega
    by_cases hlt : i < PS.length
    · obtain ⟨b, o, rfl, q, c, hc0, hqc, hpc⟩ := HP.out i hlt
      have HX := hid (HOC.out _ (List.getElem_mem hlt))
      have hsuc := catp_succ PS i hlt
      have hcl2 := catp_len PS (i + 1)
      obtain ⟨xs, hxs⟩ : ∃ xs, PS[i] = xs := ⟨_, rfl⟩
      rw [hxs] at hc0 hpc HX hsuc
      rw [hcat] at hsuc
      rw [hsuc, List.length_append] at hcl2
      have HSUC := hid hsuc
      have HQC := hid hqc
      have HPC := hid (show ∀ u, Below w.heap.size w u → Pc u q xs from fun u hu => hpc.to hu)
      have HCL := hid (show ∀ u, Below w.heap.size w u → u.cell? ⟨b, o + i, none⟩ = some (.slice q xs.length c) from fun u hu => (hu.cell (block_lt_of_cell hc0)).trans hc0)
      have hcr := HCL.out wr HZ.out.bel
      have i0 : (0 : Int) ≤ (i : Int) := by omega
      have i1 : (i : Int) < (PS.length : Int) := by omega
      have ct1 : ((i : Int)).toNat = i := by omega
      have hws := HZ.out.bel.size
      have wj : IntKind.i64.wrap ((i : Int) + 1) = ((i + 1 : Nat) : Int) := by simp [IntKind.wrap, IntKind.bits, IntKind.signed]; omega
      have HJM := hid (show i + 1 ≤ PS.length ∧ PS.length - (i + 1) < PS.length - i by omega)
      have HLT := hid hlt
      obtain ⟨j1, hj1⟩ : ∃ j1, i + 1 = j1 := ⟨_, rfl⟩
      rw [hj1] at wj HJM HSUC
      have l1 : cat.length + xs.length ≤ 140737488355328 := by omega
      have l2 : xs.length ≤ 140737488355328 := by omega
      have l3 : ys.length + xs.length ≤ 140737488355328 := by omega
      clear hc0 hqc hpc hsuc hi hlt hcat hxs
      go_wp2_with (first | (at_builtin; refine wpList_appZ _ (by rfl) (.tmp 29) (.tmp 33) (by rfl) w.heap.size _ cat (by rfl) HZ.out.wh q c xs (by rfl) HQC.out (HPC.out _ HZ.out.bel) l1 hws ?_; intro pw1 cw1 w1 o1 g1 k1; have HZ1 := hid (HZ.out.app o1 HX.out g1 k1); clear o1 g1 k1; refine Hid.out ?_))
      have HB1a := hid (show Below w1.heap.size w1 (w1.alloc (.cells #[] 5)) from (Below.refl _ w1).alloc (Nat.le_refl _) _)
      have HPC1 := hid (HPC.out _ (HZ1.out.bel.trans (HB1a.out.mono HZ1.out.bel.size)))
      have hcr1 := HCL.out w1 HZ1.out.bel
      have hcr2 := HCL.out _ (HZ1.out.bel.trans (HB1a.out.mono HZ1.out.bel.size))
      have HO1 := hid (World.ownsRow_made (base := w1.heap.size) (e := 5) (size := 1) w1 #[] 0 (Nat.le_refl _) (Nat.zero_le _) rfl)
      have hws1 := HB1a.out.size
      clear hcr HZ
      refine hid ?_
      go_wp2_with (first | (at_builtin; refine wpList_append_pc _ (by rfl) (.tmp 36) (.tmp 40) (by rfl) w1.heap.size w1.heap.size (by rfl) HO1.out q c xs (by rfl) HQC.out HPC1.out l2 hws1 ?_; intro g2 c2 w2 o2 b2; have HOW := hid o2; have HBW := hid b2; clear o2 b2; refine Hid.out ?_))
      have HZ2 := hid (HZ1.out.on (HB1a.out.trans HBW.out))
      have HFD := hid (pfeed HZ2.out ⟨g2, 0, none⟩ c2 HX.out (fun j u hj => HOW.out.cells (g := g2) rfl j u hj) l3)
      clear HO1 HPC1 hcr1 hcr2 hws1 HZ1 HOW HBW HB1a
      refine hid ?_
      go_wp2_with (first | (go_at_call 23; with_reducible refine (HFD.out).mono ?_; rintro e w3 ⟨rfl, hz⟩; have HZ3 := hid hz; clear hz; refine Hid.out ?_))
      have HJ3 := hid (HJ.out.feed xs)
      have HLL := hid (show cat.length + xs.length = (catp PS j1).length by rw [HSUC.out, List.length_append])
      have HE := hid (HSUC.out.symm)
      clear HFD HZ2 HJ
      obtain ⟨cat', hcat'⟩ : ∃ cat', cat ++ xs = cat' := ⟨_, rfl⟩
      obtain ⟨ys', hys'⟩ : ∃ ys', ys ++ xs = ys' := ⟨_, rfl⟩
      have hyl' : ys'.length ≤ 2097152 := by rw [← hys', List.length_append]; omega
      rw [hcat'] at HZ3 HJ3 HSUC
      rw [hys'] at HZ3 HJ3
      have FIN := hid (show ∀ (j : Nat) (ys : List Nat) (pg : Option Addr) (cg : Nat) (vs : List (Value × Int)) (W : World), Hid (Pz w R ys (.slice pw1 cat'.length cw1) cat' (.slice pg vs.length cg) vs W) → Hid (Pj cat' ys vs j) →
        ∃ (i j : Nat) (ys' : List Nat) (pw : Option Addr) (cw : Nat) (pg' : Option Addr) (cg' : Nat) (vs' : List (Value × Int)), i ≤ PS.length ∧ Value.int .i64 (j1 : Int) = .int .i64 i ∧ Value.slice pw1 (cat.length + xs.length) cw1 = .slice pw (catp PS i).length cw ∧ Value.slice pg vs.length cg = .slice pg' vs'.length cg' ∧ Hid (Pz w R ys' (.slice pw (catp PS i).length cw) (catp PS i) (.slice pg' vs'.length cg') vs' W) ∧ Hid (Pj (catp PS i) ys' vs' j) from fun j ys pg cg vs W hz hj => by
          refine ⟨j1, j, ys, pw1, cw1, pg, cg, vs, HJM.out.1, rfl, by rw [HLL.out], rfl, ?_, ?_⟩
          · rw [HSUC.out]; exact hz
          · rw [HSUC.out]; exact hj)
      have HMS := hid (show PS.length - j1 < PS.length - i from HJM.out.2)
      clear hcat' hys' HLL HE
      by_cases hak : i < ak.length
      · obtain ⟨bb, oo, rfl, hab⟩ := HA.out i hak
        have hab3 : w3.cell? ⟨bb, oo + i, none⟩ = some (.bool ak[i]) := (HZ3.out.bel.cell (block_lt_of_cell hab)).trans hab
        obtain ⟨bq, hbq⟩ : ∃ bq, ak[i] = bq := ⟨_, rfl⟩
        rw [hbq] at hab3
        have a1 : decide ((ak.length : Int) ≤ (i : Int)) = false := by simp; omega
        have a2 : (i : Int) < (ak.length : Int) := by omega
        clear hab hbq hak
        cases bq with
        | false =>
          refine hid ?_
          go_wp2_with fail
          go_roundw
          case rel => exact FIN.out _ _ _ _ _ _ HZ3 HJ3
          case measure => simpa [intOf] using HMS.out
        | true =>
          by_cases h64 : 64 ≤ ys'.length
          · have HNX := hid (pnext HZ3.out h64 (by omega) (HZ3.out.laid HL.out))
            have H64 := hid h64
            clear h64
            refine hid ?_
            go_wp2_with (first | (go_at_call 24; with_reducible refine (HNX.out).mono ?_; rintro e w4 ⟨k, a0, a1', a2', a3, a4, a5, a6, E, rfl, HUN, HZ4⟩; refine Hid.out ?_))
            have HZ6 := hid (HZ4.out.on (((Below.refl _ w4).alloc (Nat.le_refl _) (.cells #[.int .u8 (k : Nat), .int .u64 (a0 : Nat), .int .u64 (a1' : Nat), .int .u64 (a2' : Nat), .int .u64 (a3 : Nat), .int .u64 (a4 : Nat), .int .u64 (a5 : Nat), .int .u64 (a6 : Nat)] 31)).alloc (by simp) (.cells #[.int .u8 (k : Nat), .int .u64 (a0 : Nat), .int .u64 (a1' : Nat), .int .u64 (a2' : Nat), .int .u64 (a3 : Nat), .int .u64 (a4 : Nat), .int .u64 (a5 : Nat), .int .u64 (a6 : Nat), .int .i64 E] 65)))
            have HC6 := hid (show ∀ (jj : Nat) (u : Value), (pw (.agg #[.int .u8 (k : Nat), .int .u64 (a0 : Nat), .int .u64 (a1' : Nat), .int .u64 (a2' : Nat), .int .u64 (a3 : Nat), .int .u64 (a4 : Nat), .int .u64 (a5 : Nat), .int .u64 (a6 : Nat)], E))[jj]? = some u → ((w4.alloc (.cells #[.int .u8 (k : Nat), .int .u64 (a0 : Nat), .int .u64 (a1' : Nat), .int .u64 (a2' : Nat), .int .u64 (a3 : Nat), .int .u64 (a4 : Nat), .int .u64 (a5 : Nat), .int .u64 (a6 : Nat)] 31)).alloc (.cells #[.int .u8 (k : Nat), .int .u64 (a0 : Nat), .int .u64 (a1' : Nat), .int .u64 (a2' : Nat), .int .u64 (a3 : Nat), .int .u64 (a4 : Nat), .int .u64 (a5 : Nat), .int .u64 (a6 : Nat), .int .i64 E] 65)).cell? ⟨w4.heap.size + 1, jj, none⟩ = some u from fun jj u hj => by
              have r6 : ((w4.alloc (.cells #[.int .u8 (k : Nat), .int .u64 (a0 : Nat), .int .u64 (a1' : Nat), .int .u64 (a2' : Nat), .int .u64 (a3 : Nat), .int .u64 (a4 : Nat), .int .u64 (a5 : Nat), .int .u64 (a6 : Nat)] 31)).alloc (.cells #[.int .u8 (k : Nat), .int .u64 (a0 : Nat), .int .u64 (a1' : Nat), .int .u64 (a2' : Nat), .int .u64 (a3 : Nat), .int .u64 (a4 : Nat), .int .u64 (a5 : Nat), .int .u64 (a6 : Nat), .int .i64 E] 65)).heap[w4.heap.size + 1]? = some (.cells #[.int .u8 (k : Nat), .int .u64 (a0 : Nat), .int .u64 (a1' : Nat), .int .u64 (a2' : Nat), .int .u64 (a3 : Nat), .int .u64 (a4 : Nat), .int .u64 (a5 : Nat), .int .u64 (a6 : Nat), .int .i64 E] 65 (0, 0)) := by
                have := World.alloc_heap_new (w4.alloc (.cells #[.int .u8 (k : Nat), .int .u64 (a0 : Nat), .int .u64 (a1' : Nat), .int .u64 (a2' : Nat), .int .u64 (a3 : Nat), .int .u64 (a4 : Nat), .int .u64 (a5 : Nat), .int .u64 (a6 : Nat)] 31)) (.cells #[.int .u8 (k : Nat), .int .u64 (a0 : Nat), .int .u64 (a1' : Nat), .int .u64 (a2' : Nat), .int .u64 (a3 : Nat), .int .u64 (a4 : Nat), .int .u64 (a5 : Nat), .int .u64 (a6 : Nat), .int .i64 E] 65)
                simpa using this
              rw [row_cell r6 jj]
              simpa [pw, Value.cells] using hj)
            have HJ7 := hid (HJ3.out.next H64.out HUN.out)
            clear HNX HUN
            refine hid ?_
            go_wp2_with (first | (at_builtin; refine wpList_appW _ (by rfl) (.tmp 61) (.tmp 65) (by rfl) w.heap.size _ vs (by rfl) HZ6.out.gt (w4.heap.size + 1) (.agg #[.int .u8 (k : Nat), .int .u64 (a0 : Nat), .int .u64 (a1' : Nat), .int .u64 (a2' : Nat), .int .u64 (a3 : Nat), .int .u64 (a4 : Nat), .int .u64 (a5 : Nat), .int .u64 (a6 : Nat)], E) (by rfl) (by simp [pw, Value.cells]) (by simp [pw, Value.cells, Value.oneCell']) HC6.out hvl HZ6.out.bel.size ?_; intro pg2 cg2 w7 o7 g7; have HZ7 := hid (HZ6.out.got o7 g7); clear o7 g7; refine Hid.out ?_))
            refine hid ?_
            go_wp2_with fail
            go_roundw
            case rel =>
              have := FIN.out _ _ pg2 cg2 _ _ HZ7 HJ7
              rw [List.length_append] at this
              exact this
            case measure => simpa [intOf] using HMS.out
          · have HNX := hid (pnone HZ3.out (by omega))
            rw [fz_eq] at HNX
            clear h64
            refine hid ?_
            go_wp2_with (first | (go_at_call 24; with_reducible refine (HNX.out).mono ?_; rintro e w4 ⟨rfl, HZ4⟩; refine Hid.out ?_))
            have HZ5 := hid (HZ4.out.on ((Below.refl _ w4).alloc (Nat.le_refl _) (.cells #[.int .u8 0, .int .u64 0, .int .u64 0, .int .u64 0, .int .u64 0, .int .u64 0, .int .u64 0, .int .u64 0] 31)))
            refine hid ?_
            go_wp2_with fail
            go_roundw
            case rel => exact FIN.out _ _ _ _ _ _ HZ5 HJ3
            case measure => simpa [intOf] using HMS.out
      · have a1 : (ak.length : Int) ≤ (i : Int) := by omega
        clear hak
        refine hid ?_
        go_wp2_with fail
        go_roundw
        case rel => exact FIN.out _ _ _ _ _ _ HZ3 HJ3
        case measure => simpa [intOf] using HMS.out
    · have hn : i = PS.length := by omega
      subst hn
      have f1 : ¬ (PS.length : Int) < (PS.length : Int) := by omega
      obtain ⟨L, hL⟩ : ∃ L, cat.length / 64 = L := ⟨_, rfl⟩
      have hq : ((cat.length : Nat) : Int).tdiv 64 = (L : Int) := by rw [Int.tdiv_eq_ediv_of_nonneg (by omega)]; omega
      have HLd := hid hL
      have hL20 : L ≤ 1048576 := by omega
      clear hlt hi hcat hL hyl hvl
      go_wp2_with fail
      go_loopw [7, 12] (fun gv nv wr => ∃ (j n : Nat) (ys : List Nat) (pg : Option Addr) (cg : Nat) (vs : List (Value × Int)), nv = .int .i64 n ∧ gv = .slice pg vs.length cg ∧ ((n = j ∧ j ≤ L) ∨ (n = L + 1 ∧ j = L)) ∧ Hid (Pz w R ys (.slice pw0 cat.length cw) cat (.slice pg vs.length cg) vs wr) ∧ Hid (Pj cat ys vs j)) (fun _ nv _ => L + 1 - (intOf nv).toNat)
      case atStart => exact ⟨j, vs.length, ys, pg, cg, vs, rfl, rfl, .inl ⟨HJL.out, by have := HJ.out.le; have := HLd.out; omega⟩, HZ, HJ⟩
      case round =>
        clear HZ HJ HJL
        obtain ⟨j, n, ys, pg, cg, vs, rfl, rfl, hn, HZ, HJ⟩ := hrel
        have HJL := hid HJ.out.len
        have hvl : vs.length ≤ 1099511627776 := by have := HJ.out.len; have := HJ.out.le; omega
        have hyl : ys.length = cat.length - 64 * j := by rw [HJ.out.ys, List.length_drop]
        by_cases hnl : n ≤ L
        · have hnj : n = j := by omega
          have x1 : (n : Int) ≤ (L : Int) := by omega
          have wj : IntKind.i64.wrap ((n : Int) + 1) = ((n + 1 : Nat) : Int) := by simp [IntKind.wrap, IntKind.bits, IntKind.signed]; omega
          obtain ⟨n1, hn1⟩ : ∃ n1, n + 1 = n1 := ⟨_, rfl⟩
          have HMS := hid (show L + 1 - n1 < L + 1 - n by omega)
          have HN1 := hid (And.intro hn1 (And.intro hnj hnl))
          rw [hn1] at wj
          by_cases h64 : 64 ≤ ys.length
          · have HNX := hid (pnext HZ.out h64 (by omega) (HZ.out.laid HL.out))
            have H64 := hid h64
            have HJL1 := hid (show j + 1 ≤ L from by have := HLd.out; omega)
            clear h64 hyl hn hnl hnj hn1
            go_wp2_with (first | (go_at_call 24; with_reducible refine (HNX.out).mono ?_; rintro e w4 ⟨k, a0, a1', a2', a3, a4, a5, a6, E, rfl, HUN, HZ4⟩; refine Hid.out ?_))
            have HZ6 := hid (HZ4.out.on (((Below.refl _ w4).alloc (Nat.le_refl _) (.cells #[.int .u8 (k : Nat), .int .u64 (a0 : Nat), .int .u64 (a1' : Nat), .int .u64 (a2' : Nat), .int .u64 (a3 : Nat), .int .u64 (a4 : Nat), .int .u64 (a5 : Nat), .int .u64 (a6 : Nat)] 31)).alloc (by simp) (.cells #[.int .u8 (k : Nat), .int .u64 (a0 : Nat), .int .u64 (a1' : Nat), .int .u64 (a2' : Nat), .int .u64 (a3 : Nat), .int .u64 (a4 : Nat), .int .u64 (a5 : Nat), .int .u64 (a6 : Nat), .int .i64 E] 65)))
            have HC6 := hid (show ∀ (jj : Nat) (u : Value), (pw (.agg #[.int .u8 (k : Nat), .int .u64 (a0 : Nat), .int .u64 (a1' : Nat), .int .u64 (a2' : Nat), .int .u64 (a3 : Nat), .int .u64 (a4 : Nat), .int .u64 (a5 : Nat), .int .u64 (a6 : Nat)], E))[jj]? = some u → ((w4.alloc (.cells #[.int .u8 (k : Nat), .int .u64 (a0 : Nat), .int .u64 (a1' : Nat), .int .u64 (a2' : Nat), .int .u64 (a3 : Nat), .int .u64 (a4 : Nat), .int .u64 (a5 : Nat), .int .u64 (a6 : Nat)] 31)).alloc (.cells #[.int .u8 (k : Nat), .int .u64 (a0 : Nat), .int .u64 (a1' : Nat), .int .u64 (a2' : Nat), .int .u64 (a3 : Nat), .int .u64 (a4 : Nat), .int .u64 (a5 : Nat), .int .u64 (a6 : Nat), .int .i64 E] 65)).cell? ⟨w4.heap.size + 1, jj, none⟩ = some u from fun jj u hj => by
              have r6 : ((w4.alloc (.cells #[.int .u8 (k : Nat), .int .u64 (a0 : Nat), .int .u64 (a1' : Nat), .int .u64 (a2' : Nat), .int .u64 (a3 : Nat), .int .u64 (a4 : Nat), .int .u64 (a5 : Nat), .int .u64 (a6 : Nat)] 31)).alloc (.cells #[.int .u8 (k : Nat), .int .u64 (a0 : Nat), .int .u64 (a1' : Nat), .int .u64 (a2' : Nat), .int .u64 (a3 : Nat), .int .u64 (a4 : Nat), .int .u64 (a5 : Nat), .int .u64 (a6 : Nat), .int .i64 E] 65)).heap[w4.heap.size + 1]? = some (.cells #[.int .u8 (k : Nat), .int .u64 (a0 : Nat), .int .u64 (a1' : Nat), .int .u64 (a2' : Nat), .int .u64 (a3 : Nat), .int .u64 (a4 : Nat), .int .u64 (a5 : Nat), .int .u64 (a6 : Nat), .int .i64 E] 65 (0, 0)) := by
                have := World.alloc_heap_new (w4.alloc (.cells #[.int .u8 (k : Nat), .int .u64 (a0 : Nat), .int .u64 (a1' : Nat), .int .u64 (a2' : Nat), .int .u64 (a3 : Nat), .int .u64 (a4 : Nat), .int .u64 (a5 : Nat), .int .u64 (a6 : Nat)] 31)) (.cells #[.int .u8 (k : Nat), .int .u64 (a0 : Nat), .int .u64 (a1' : Nat), .int .u64 (a2' : Nat), .int .u64 (a3 : Nat), .int .u64 (a4 : Nat), .int .u64 (a5 : Nat), .int .u64 (a6 : Nat), .int .i64 E] 65)
                simpa using this
              rw [row_cell r6 jj]
              simpa [pw, Value.cells] using hj)
            have HJ7 := hid (HJ.out.next H64.out HUN.out)
            clear HNX HUN
            refine hid ?_
            go_wp2_with (first | (at_builtin; refine wpList_appW _ (by rfl) (.tmp 83) (.tmp 87) (by rfl) w.heap.size _ vs (by rfl) HZ6.out.gt (w4.heap.size + 1) (.agg #[.int .u8 (k : Nat), .int .u64 (a0 : Nat), .int .u64 (a1' : Nat), .int .u64 (a2' : Nat), .int .u64 (a3 : Nat), .int .u64 (a4 : Nat), .int .u64 (a5 : Nat), .int .u64 (a6 : Nat)], E) (by rfl) (by simp [pw, Value.cells]) (by simp [pw, Value.cells, Value.oneCell']) HC6.out hvl HZ6.out.bel.size ?_; intro pg2 cg2 w7 o7 g7; have HZ7 := hid (HZ6.out.got o7 g7); clear o7 g7; refine Hid.out ?_))
            refine hid ?_
            go_wp2_with fail
            go_roundw
            case rel => exact ⟨j + 1, n1, _, pg2, cg2, _, rfl, by rw [List.length_append]; rfl, .inl ⟨by have := HN1.out; omega, HJL1.out⟩, HZ7, HJ7⟩
            case measure => simpa [intOf] using HMS.out
          · have HNX := hid (pnone HZ.out (by omega))
            rw [fz_eq] at HNX
            have HJL1 := hid (show j = L from by have := HLd.out; have := HJ.out.le; omega)
            clear h64 hyl hn hnl hnj hn1
            go_wp2_with (first | (go_at_call 24; with_reducible refine (HNX.out).mono ?_; rintro e w4 ⟨rfl, HZ4⟩; refine Hid.out ?_))
            have HZ5 := hid (HZ4.out.on ((Below.refl _ w4).alloc (Nat.le_refl _) (.cells #[.int .u8 0, .int .u64 0, .int .u64 0, .int .u64 0, .int .u64 0, .int .u64 0, .int .u64 0, .int .u64 0] 31)))
            refine hid ?_
            go_wp2_with fail
            go_roundw
            case rel => exact ⟨j, n1, ys, pg, cg, vs, rfl, rfl, .inr ⟨by have := HN1.out; have := HJL1.out; omega, HJL1.out⟩, HZ5, HJ⟩
            case measure => simpa [intOf] using HMS.out
        · have x1 : ¬ (n : Int) ≤ (L : Int) := by omega
          have hjL : j = L := by omega
          have hy64 : ys.length < 64 := by have := HLd.out; omega
          have HCS := hid (pclose HZ.out (by omega))
          clear hn hnl hyl
          by_cases hy0 : ys = []
          · have HTF := hid (HJ.out.done hy0)
            have HCS' := hid (show Calls Tryd.prog 25 #[.pointer (some ⟨R, 0, none⟩)] wr fun e W' => e = .returned (.int .i64 0) ∧ Hid (Pz w R [] (.slice pw0 cat.length cw) cat (.slice pg vs.length cg) vs W') from HCS.out.mono (by
              rintro e W' ⟨⟨_, rfl⟩ | ⟨h, _⟩, hz⟩
              · exact ⟨rfl, hz⟩
              · rw [hy0] at h; simp at h))
            clear HCS hy64 hy0
            go_wp2_with (first | (go_at_call 25; with_reducible refine (HCS'.out).mono ?_; rintro e w8 ⟨rfl, HZ8⟩; refine Hid.out ?_))
            have HTD := hid (told_sl pw0 cat.length cw cat w8 (own_sx HZ8.out.wh) HZ8.out.oc (by omega) (HZ8.out.laid HL.out))
            refine hid ?_
            go_wp2_with (first | (go_at_call 26; with_reducible refine (HTD.out).mono ?_; rintro e w9 ⟨vr, p9, c9, rfl, HTL9, HP9, HB9⟩; refine Hid.out ?_))
            have hvr : vr = vs := HTL9.out.one HTF.out
            have HPG := hid ((HZ8.out.gt.rd HTF.out).on HB9.out)
            have HZ9 := hid (HZ8.out.on HB9.out)
            obtain ⟨nv, hnv⟩ : ∃ nv, vr.length = nv := ⟨_, rfl⟩
            have hnw : vs.length = nv := by rw [← hnv, hvr]
            have HVR := hid hvr
            have HNV := hid hnv
            have hn20 : nv ≤ 1048576 := by have h1 := HTL9.out.len; have h2 := chs_bound cat; omega
            rw [hnv, hnw]
            rw [← hvr] at HPG HZ9
            clear hvr hnv hnw HTD
            refine hid ?_
            go_wp2_with fail
            go_loopw [17] (fun iv wr => ∃ i : Nat, i ≤ nv ∧ iv = .int .i64 i ∧ Hid (Below w9.heap.size w9 wr)) (fun iv _ => nv - (intOf iv).toNat)
            case atStart => exact ⟨0, Nat.zero_le _, rfl, hid (Below.refl _ _)⟩
            case round =>
              obtain ⟨i, hi, rfl, HBr⟩ := hrel
              by_cases hin : i < nv
              · have hif : i < vr.length := by rw [HNV.out]; exact hin
                obtain ⟨k', b0, b1, b2, b3, b4, b5, b6, hf0⟩ := HTL9.out.form vr[i] (List.getElem_mem hif)
                have he0 : vr[i] = (.agg #[.int .u8 (k' : Nat), .int .u64 (b0 : Nat), .int .u64 (b1 : Nat), .int .u64 (b2 : Nat), .int .u64 (b3 : Nat), .int .u64 (b4 : Nat), .int .u64 (b5 : Nat), .int .u64 (b6 : Nat)], vr[i].2) := by rw [← hf0]
                obtain ⟨E', hE⟩ : ∃ E, vr[i].2 = E := ⟨_, rfl⟩
                rw [hE] at he0
                obtain ⟨g9, hp9, d0, d1, d2, d3, d4, d5, d6, d7, d8⟩ := (HP9.out.on HBr.out).at hif he0
                obtain ⟨gg, hpg, f0, f1, f2, f3, f4, f5, f6, f7, f8⟩ := (HPG.out.on HBr.out).at hif he0
                subst hp9 hpg
                have NE := neP k' b0 b1 b2 b3 b4 b5 b6 E'
                have y1 : (i : Int) < (nv : Int) := by omega
                have y2 : (0 : Int) ≤ (i : Int) := by omega
                have ct1 : ((i : Int)).toNat = i := by omega
                have wj : IntKind.i64.wrap ((i : Int) + 1) = ((i + 1 : Nat) : Int) := by simp [IntKind.wrap, IntKind.bits, IntKind.signed]; omega
                have HJM := hid (show i + 1 ≤ nv ∧ nv - (i + 1) < nv - i by omega)
                obtain ⟨j1, hj1⟩ : ∃ j1, i + 1 = j1 := ⟨_, rfl⟩
                rw [hj1] at wj HJM
                clear hif hf0 he0 hE hin hi hj1
                go_wp2_with fail
                go_quiet (fail)
                go_wp2_with fail
                go_roundw
                case rel => exact ⟨j1, HJM.out.1, rfl, hid (HBr.out.trans (by refine Below.mono (below_drews ?_ ?_ ?_ ?_) HBr.out.size <;> rfl))⟩
                case measure => simpa [intOf] using HJM.out.2
              · have hn : i = nv := by omega
                have y1 : ¬ (i : Int) < (nv : Int) := by omega
                have HZr := hid (HZ9.out.on HBr.out)
                obtain ⟨hv, hrd, _⟩ := HZr.out.rd
                have HLF := hid (rleft_any w.heap.size wr R [] hrd.rd)
                subst hn
                clear hi hin hrd
                go_wp2_with (first | (go_at_call 21; with_reducible refine (HLF.out).mono ?_; rintro e w10 ⟨rfl, h10⟩; subst w10))
                go_ret
                exact ⟨rfl, HZr.out.bel⟩
          · have hy1 : 0 < ys.length := List.length_pos_iff.2 hy0
            have HTF := hid (HJ.out.short hy1 hy64)
            have HCS' := hid (show Calls Tryd.prog 25 #[.pointer (some ⟨R, 0, none⟩)] wr fun e W' => e = .returned (.int .i64 20) ∧ Hid (Pz w R [] (.slice pw0 cat.length cw) cat (.slice pg vs.length cg) vs W') from HCS.out.mono (by
              rintro e W' ⟨⟨h, _⟩ | ⟨_, rfl⟩, hz⟩
              · exact absurd h hy0
              · exact ⟨rfl, hz⟩))
            clear HCS hy64 hy0 hy1
            go_wp2_with (first | (go_at_call 25; with_reducible refine (HCS'.out).mono ?_; rintro e w5 ⟨rfl, HZ5⟩; refine Hid.out ?_))
            have HZ6 := hid (HZ5.out.on ((Below.refl _ w5).alloc (Nat.le_refl _) (.cells #[.int .u8 0, .int .u64 0, .int .u64 0, .int .u64 0, .int .u64 0, .int .u64 0, .int .u64 0, .int .u64 0, .int .i64 20] 65)))
            have HC6 := hid (show ∀ (jj : Nat) (u : Value), (pw (.agg fz, 20))[jj]? = some u → (w5.alloc (.cells #[.int .u8 0, .int .u64 0, .int .u64 0, .int .u64 0, .int .u64 0, .int .u64 0, .int .u64 0, .int .u64 0, .int .i64 20] 65)).cell? ⟨w5.heap.size, jj, none⟩ = some u from fun jj u hj => by
              rw [row_cell (World.alloc_heap_new w5 (.cells #[.int .u8 0, .int .u64 0, .int .u64 0, .int .u64 0, .int .u64 0, .int .u64 0, .int .u64 0, .int .u64 0, .int .i64 20] 65)) jj]
              rw [fz_eq] at hj
              simpa [pw, Value.cells] using hj)
            refine hid ?_
            go_wp2_with (first | (at_builtin; refine wpList_appW _ (by rfl) (.tmp 92) (.tmp 94) (by rfl) w.heap.size _ vs (by rfl) HZ6.out.gt w5.heap.size (.agg fz, 20) (by rfl) (by rw [fz_eq]; simp [pw, Value.cells]) (by rw [fz_eq]; simp [pw, Value.cells, Value.oneCell']) HC6.out hvl HZ6.out.bel.size ?_; intro pgF cgF w8 o7 g7; have HZ8 := hid (HZ6.out.got o7 g7); clear o7 g7; refine Hid.out ?_))
            have HTD := hid (told_sl pw0 cat.length cw cat w8 (own_sx HZ8.out.wh) HZ8.out.oc (by omega) (HZ8.out.laid HL.out))
            refine hid ?_
            go_wp2_with (first | (go_at_call 26; with_reducible refine (HTD.out).mono ?_; rintro e w9 ⟨vr, p9, c9, rfl, HTL9, HP9, HB9⟩; refine Hid.out ?_))
            have hvr : vr = vs ++ [(.agg fz, 20)] := HTL9.out.one HTF.out
            have HPG := hid ((HZ8.out.gt.rd HTF.out).on HB9.out)
            have HZ9 := hid (HZ8.out.on HB9.out)
            obtain ⟨nv, hnv⟩ : ∃ nv, vr.length = nv := ⟨_, rfl⟩
            have hnw : vs.length + 1 = nv := by rw [← hnv, hvr, List.length_append]; rfl
            have HVR := hid hvr
            have HNV := hid hnv
            have hn20 : nv ≤ 1048576 := by have h1 := HTL9.out.len; have h2 := chs_bound cat; omega
            rw [hnv, hnw]
            rw [← hvr] at HPG HZ9
            clear hvr hnv hnw HTD
            refine hid ?_
            go_wp2_with fail
            go_loopw [17] (fun iv wr => ∃ i : Nat, i ≤ nv ∧ iv = .int .i64 i ∧ Hid (Below w9.heap.size w9 wr)) (fun iv _ => nv - (intOf iv).toNat)
            case atStart => exact ⟨0, Nat.zero_le _, rfl, hid (Below.refl _ _)⟩
            case round =>
              obtain ⟨i, hi, rfl, HBr⟩ := hrel
              by_cases hin : i < nv
              · have hif : i < vr.length := by rw [HNV.out]; exact hin
                obtain ⟨k', b0, b1, b2, b3, b4, b5, b6, hf0⟩ := HTL9.out.form vr[i] (List.getElem_mem hif)
                have he0 : vr[i] = (.agg #[.int .u8 (k' : Nat), .int .u64 (b0 : Nat), .int .u64 (b1 : Nat), .int .u64 (b2 : Nat), .int .u64 (b3 : Nat), .int .u64 (b4 : Nat), .int .u64 (b5 : Nat), .int .u64 (b6 : Nat)], vr[i].2) := by rw [← hf0]
                obtain ⟨E', hE⟩ : ∃ E, vr[i].2 = E := ⟨_, rfl⟩
                rw [hE] at he0
                obtain ⟨g9, hp9, d0, d1, d2, d3, d4, d5, d6, d7, d8⟩ := (HP9.out.on HBr.out).at hif he0
                obtain ⟨gg, hpg, f0, f1, f2, f3, f4, f5, f6, f7, f8⟩ := (HPG.out.on HBr.out).at hif he0
                subst hp9 hpg
                have NE := neP k' b0 b1 b2 b3 b4 b5 b6 E'
                have y1 : (i : Int) < (nv : Int) := by omega
                have y2 : (0 : Int) ≤ (i : Int) := by omega
                have ct1 : ((i : Int)).toNat = i := by omega
                have wj : IntKind.i64.wrap ((i : Int) + 1) = ((i + 1 : Nat) : Int) := by simp [IntKind.wrap, IntKind.bits, IntKind.signed]; omega
                have HJM := hid (show i + 1 ≤ nv ∧ nv - (i + 1) < nv - i by omega)
                obtain ⟨j1, hj1⟩ : ∃ j1, i + 1 = j1 := ⟨_, rfl⟩
                rw [hj1] at wj HJM
                clear hif hf0 he0 hE hin hi hj1
                go_wp2_with fail
                go_quiet (fail)
                go_wp2_with fail
                go_roundw
                case rel => exact ⟨j1, HJM.out.1, rfl, hid (HBr.out.trans (by refine Below.mono (below_drews ?_ ?_ ?_ ?_) HBr.out.size <;> rfl))⟩
                case measure => simpa [intOf] using HJM.out.2
              · have hn : i = nv := by omega
                have y1 : ¬ (i : Int) < (nv : Int) := by omega
                have HZr := hid (HZ9.out.on HBr.out)
                obtain ⟨hv, hrd, _⟩ := HZr.out.rd
                have HLF := hid (rleft_any w.heap.size wr R [] hrd.rd)
                subst hn
                clear hi hin hrd
                go_wp2_with (first | (go_at_call 21; with_reducible refine (HLF.out).mono ?_; rintro e w10 ⟨rfl, h10⟩; subst w10))
                go_ret
                exact ⟨rfl, HZr.out.bel⟩
end Go.Proofs.YtniofmaefonkdaaDoor
