/-
  IndexTwo, case 2 of what 'more' says. Written by mktb.py.
-/
import Derived.Test.YtehjmdolmkbncaaTwB0
namespace Go.Proofs.Ytehjmdolmkbncaa
open Go.RowKit Go.Deep
set_option linter.unusedVariables false
set_option linter.unusedSimpArgs false
set_option maxHeartbeats 4000000
set_option maxRecDepth 100000
attribute [local go_sem] Oper.semAt_some
theorem two_2 {room : Nat} (h1 : 1 ≤ room) (h2 : room ≤ 65536) (more : Int) (roo : Nat) (r1 : room ≤ roo) (r2 : roo ≤ 65536) {w : World}
    (c1 : decide (more < 0) = false) (c2 : decide (100 < more) = true) (c4 : roo = room)
    (q : Option Addr) (cap : Nat) (l : List StV) (hV : Stz w q l) (hb : ∀ x ∈ l, 0 ≤ x.k ∧ x.k ≤ 18446744073709551615) (hml : l.length ≤ maxLen)
    (p : Option Addr) (cap2 : Nat) (ks : List Int) (hK : Kyz w p ks) (hkl : ks.length ≤ maxLen) :
    Calls Try.prog 8 #[.int .i64 room, .int .i64 more, .slice q l.length cap, .slice p ks.length cap2] w fun e w' => e = .returned (.bool true) ∧ Below w.heap.size w w' := by
  have HNX := hid (fun u => new_any h1 h2 u)
  have HNY := hid (show ∀ u (a : Int), a = (roo : Int) → _ from fun u a ha => ha ▸ new_any (show 1 ≤ roo by omega) r2 u)
  have HLV := hid (lives_any (w.alloc (.cells #[.bool false] 4)))
  have HR0 := hid (Rq.new w)
  have HV := hid hV
  have HBD := hid hb
  have HKZ := hid hK
  unfold maxLen at hml hkl
  have NF := hid nilf
  clear hV hb hK
  have wro : IntKind.i64.wrap ((room : Int) + 0) = (room : Int) := by simp [IntKind.wrap, IntKind.bits, IntKind.signed]; omega
  refine (callsIn_wide (n := 5)).1 ?_
  refine callsIn_of_wp_marks Try.func8 rfl trivial ?_ rfl
  refine wpIn_wide.2 ?_
  simp only [Try.ntmps8, List.size_toArray, List.length_cons, List.length_nil, Nat.reduceAdd, Nat.reduceSub, Array.replicate_succ, Array.replicate_zero, List.push_toArray, List.append_toArray, List.nil_append, List.cons_append]
  go_wp2_with (first | (go_at_call 18; with_reducible refine (HLV.out).mono ?_; rintro e w1 ⟨rfl, hb⟩; have HR1 := hid (HR0.out.on hb); clear hb; refine Hid.out ?_))
  refine hid ?_
  go_wp2_with (first | (go_at_call 17; with_reducible refine (HNX.out _).mono ?_; rintro e w2 ⟨X, P, rfl, hL, hX, hP, hB⟩; have HX := hid (And.intro hL (And.intro hX (And.intro hP hB))); clear hL hX hP hB; refine Hid.out ?_))
  refine hid ?_
  go_wp2_with (first | (go_at_call 17; with_reducible refine (HNY.out _ _ (by omega)).mono ?_; rintro e w3 ⟨Y, PY, rfl, hL, hX, hP, hB⟩; have HY := hid (And.intro hL (And.intro hX (And.intro hP hB))); clear hL hX hP hB; refine Hid.out ?_))
  clear HNX HNY HLV
  obtain ⟨n, hn⟩ : ∃ n, pn room = n := ⟨_, rfl⟩
  obtain ⟨m, hmn⟩ : ∃ m, pn roo = m := ⟨_, rfl⟩
  rw [hn] at HX
  rw [hmn] at HY
  have HT := hid (show Tq w w.heap.size w3.heap.size X P Y PY n room m roo Ix.nil Ix.nil (w3.alloc (.cells #[.pointer (some ⟨Y, 0, none⟩)] 22)) from by
    obtain ⟨a1, a2, a3, a4⟩ := HX.out
    obtain ⟨b1, b2, b3, b4⟩ := HY.out
    have x1 := a1.ltX
    have x2 := a1.ltP
    have hal : Below w3.heap.size w3 (w3.alloc (.cells #[.pointer (some ⟨Y, 0, none⟩)] 22)) := (Below.refl _ w3).alloc (Nat.le_refl _) _
    have R2 := HR1.out.on a4
    have R3 := R2.on b4
    have R4 := R3.on hal
    have z1 := HR1.out.bel.size
    have z2 := R2.bel.size
    have k0 : ∀ u v : World, Below u.heap.size u v → Kp (fun _ => False) u v := fun u v h => Kp.ofBelow _ h
    refine ⟨(a1.kp (k0 _ _ b4) (fun h => h) (fun h => h)).kp (k0 _ _ hal) (fun h => h) (fun h => h), Ix.tidy_nil _ _, b1.kp (k0 _ _ hal) (fun h => h) (fun h => h), Ix.tidy_nil _ _, R4.r, World.alloc_heap_new _ _, R4.bel, ⟨by omega, by omega⟩, ⟨by omega, by omega⟩, ⟨by omega, by omega⟩⟩)
  obtain ⟨CY, hCY⟩ : ∃ CY, w3.heap.size = CY := ⟨_, rfl⟩
  obtain ⟨R, hR⟩ : ∃ R, w.heap.size = R := ⟨_, rfl⟩
  have HWR := hid hR
  have HT' := hid (show Tq w R CY X P Y PY n room m roo Ix.nil Ix.nil (w3.alloc (.cells #[.pointer (some ⟨Y, 0, none⟩)] 22)) from by rw [← hCY, ← hR]; exact HT.out)
  have HS0 := hid (show Sm n m Ix.nil Ix.nil from ⟨fun k v => by simp [Ix.Has, Ix.nil], by rw [(show Ix.cnt Ix.nil n = 0 from (Gone.nil n).cnt), (show Ix.cnt Ix.nil m = 0 from (Gone.nil m).cnt)]⟩)
  clear HX HY hn hmn HT HR1 HR0
  refine hid ?_
  go_wp2_with fail
  simp only [hR, hCY]
  clear hR hCY c1 wro
  go_loopw [13] (fun iv wr => ∃ (i : Nat) (T T' : Ix.Tab), i ≤ l.length ∧ iv = .int .i64 i ∧ Hid (Tq w R CY X P Y PY n room m roo T T' wr) ∧ Hid (Sm n m T T')) (fun iv _ => l.length - (intOf iv).toNat)
  case atStart => exact ⟨0, Ix.nil, Ix.nil, Nat.zero_le _, rfl, HT', HS0⟩
  case round =>
    obtain ⟨i, T, T', hi, rfl, HI, HS⟩ := hrel
    clear HT' HS0
    by_cases hin : i < l.length
    · obtain ⟨b, off, rfl, hbl, c0, c1, c2⟩ := (HV.out.on HI.out.bel).cells hin
      obtain ⟨k0, k1⟩ := HBD.out _ (List.getElem_mem hin)
      obtain ⟨x, hx⟩ : ∃ x, l[i] = x := ⟨_, rfl⟩
      rw [hx] at c0 c1 c2 k0 k1
      obtain ⟨xd, xk, xv⟩ := x
      simp only at c0 c1 c2 k0 k1
      have f1 : (i : Int) < (l.length : Int) := by omega
      have f2 : (0 : Int) ≤ (i : Int) := by omega
      have ct1 : ((i : Int)).toNat = i := by omega
      have wj : IntKind.i64.wrap ((i : Int) + 1) = ((i + 1 : Nat) : Int) := by simp [IntKind.wrap, IntKind.bits, IntKind.signed]; omega
      have HJM := hid (show i + 1 ≤ l.length ∧ l.length - (i + 1) < l.length - i by omega)
      obtain ⟨j1, hj1⟩ : ∃ j1, i + 1 = j1 := ⟨_, rfl⟩
      rw [hj1] at wj HJM
      have HCL := hid (show ∀ u, Below w.heap.size w u → u.cell? ⟨b, off + i * 3 + 1, none⟩ = some (.int .u64 xk) ∧ u.cell? ⟨b, off + i * 3 + 2, none⟩ = some (.int .i64 xv) from fun u hu => by
        obtain ⟨b', off', e', _, _, y1, y2⟩ := (HV.out.on hu).cells hin
        cases e'
        rw [hx] at y1 y2
        exact ⟨y1, y2⟩)
      cases xd with
      | true =>
        have HD := hid (drop_any HI.out.lx HI.out.tx xk)
        clear hx hi hin hj1 k0 k1
        go_wp2_with (first | (go_at_call 19; with_reducible refine (HD.out).mono ?_; rintro e w4 ⟨v9, b9, T2, rfl, hL, ht, hk, hR⟩; have HI2 := hid (HI.out.putX hL ht hk); have HR9 := hid hR; clear hL ht hk hR; refine Hid.out ?_))
        have HI2d := hid (HI2.out.on (below_drews (b := w4.drew) rfl rfl rfl rfl))
        have HDY := hid (drop_any HI2d.out.ly HI2d.out.ty xk)
        obtain ⟨y1, -⟩ := HCL.out _ HI2.out.bel
        have y3 := HI2.out.cyc
        refine hid ?_
        go_wp2_with fail
        go_region_held3 (fun w' => w'.cell? ⟨b, off + i * 3 + 1, none⟩ = some (.int .u64 xk) ∧ w'.cell? ⟨CY, 0, none⟩ = some (.pointer (some ⟨Y, 0, none⟩))) (go_keep) (first | (go_at_call 19; with_reducible refine (HDY.out).mono ?_; rintro e w5 ⟨v8, b8, T2', rfl, hL, ht, hk, hR⟩; have HI3 := hid (HI2d.out.putY hL ht hk); have HR8 := hid hR; clear hL ht hk hR; obtain ⟨y1, -⟩ := HCL.out _ HI3.out.bel; have y3 := HI3.out.cyc))
        obtain ⟨e1, e2, hs2⟩ := HS.out.drop HI.out.tx HR9.out HR8.out
        subst e1 e2
        have HS2 := hid hs2
        clear hs2 HR9 HR8
        refine Hid.out ?_
        refine hid ?_
        cases b9
        all_goals
          go_wp2_with fail
          go_roundw
          case rel => exact ⟨j1, T2, T2', HJM.out.1, rfl, HI3, HS2⟩
          case measure => simpa [intOf] using HJM.out.2
      | false =>
        have HLN := hid (len_any HI.out.lx)
        have HRM := hid (room_any HI.out.lx)
        obtain ⟨cn, hcn⟩ : ∃ cn, Ix.cnt T n = cn := ⟨_, rfl⟩
        rw [hcn] at HLN
        by_cases hfull : cn = room
        · have df : ((cn : Int) == (room : Int)) = true := by simp; omega
          clear hx hi hin hj1 k0 k1 hcn
          go_wp2_with (first | (go_at_call 11; with_reducible refine (HLN.out).mono ?_; rintro e w4 ⟨rfl, h9⟩; subst w4) | (go_at_call 10; with_reducible refine (HRM.out).mono ?_; rintro e w4 ⟨rfl, h9⟩; subst w4))
          go_roundw
          case rel => exact ⟨j1, T, T', HJM.out.1, rfl, HI, HS⟩
          case measure => simpa [intOf] using HJM.out.2
        · have df : ((cn : Int) == (room : Int)) = false := by simp; omega
          have HCT := hid (show Ix.cnt T n < room from by have := HI.out.lx.le; omega)
          have HDW := hid (HI.out.on (below_drews (b := wr.drew) rfl rfl rfl rfl))
          have HP := hid (put_any HDW.out.lx HDW.out.tx xv k0 k1)
          have HPY := hid (fun u T2 (h : Hid (Tq w R CY X P Y PY n room m roo T2 T' u)) => put_any h.out.ly h.out.ty xv k0 k1)
          have y3 := HI.out.cyc
          clear hx hi hin hj1 k0 k1 hcn
          go_wp2_with (first | (go_at_call 11; with_reducible refine (HLN.out).mono ?_; rintro e w4 ⟨rfl, h9⟩; subst w4) | (go_at_call 10; with_reducible refine (HRM.out).mono ?_; rintro e w4 ⟨rfl, h9⟩; subst w4))
          go_region_held3 (fun w' => w'.cell? ⟨b, off + i * 3 + 1, none⟩ = some (.int .u64 xk) ∧ w'.cell? ⟨b, off + i * 3 + 2, none⟩ = some (.int .i64 xv) ∧ w'.cell? ⟨CY, 0, none⟩ = some (.pointer (some ⟨Y, 0, none⟩))) (go_keep) (first | (go_at_call 20; with_reducible refine (HP.out).mono ?_; rintro e w4 ⟨c9, T2, rfl, hL, ht, hk, hR⟩; have HI2 := hid (HDW.out.putX hL ht hk); have HR9 := hid hR; clear hL ht hk hR; obtain ⟨y1, y2⟩ := HCL.out _ HI2.out.bel; have y3 := HI2.out.cyc) | (go_at_call 20; with_reducible refine (HPY.out _ _ (by assumption)).mono ?_; rintro e w5 ⟨c8, T2', rfl, hL, ht, hk, hR⟩; have HI3 := hid (HI2.out.putY hL ht hk); have HR8 := hid hR; clear hL ht hk hR; obtain ⟨y1, y2⟩ := HCL.out _ HI3.out.bel; have y3 := HI3.out.cyc; obtain ⟨e1, hs2⟩ := HS.out.put HCT.out r1 HR9.out HR8.out; subst e1; have HS2 := hid hs2; clear hs2))
          refine Hid.out ?_
          refine hid ?_
          go_wp2_with fail
          go_roundw
          case rel => exact ⟨j1, T2, T2', HJM.out.1, rfl, HI3, HS2⟩
          case measure => simpa [intOf] using HJM.out.2
    · have hn : i = l.length := by omega
      subst hn
      have f1 : ¬ (l.length : Int) < (l.length : Int) := by omega
      clear hi hin
      go_wp2_with fail
      go_loopw [18] (fun iv wr => ∃ i : Nat, i ≤ ks.length ∧ iv = .int .i64 i ∧ Hid (Tq w R CY X P Y PY n room m roo T T' wr)) (fun iv _ => ks.length - (intOf iv).toNat)
      case atStart => exact ⟨0, Nat.zero_le _, rfl, HI⟩
      case round =>
        clear HI
        obtain ⟨i, hi, rfl, HI⟩ := hrel
        by_cases hin : i < ks.length
        · obtain ⟨b, off, rfl, hbl, c0⟩ := (HKZ.out.on HI.out.bel) i hin
          obtain ⟨xk, hx⟩ : ∃ x, ks[i] = x := ⟨_, rfl⟩
          rw [hx] at c0
          have f1 : (i : Int) < (ks.length : Int) := by omega
          have f2 : (0 : Int) ≤ (i : Int) := by omega
          have ct1 : ((i : Int)).toNat = i := by omega
          have wj : IntKind.i64.wrap ((i : Int) + 1) = ((i + 1 : Nat) : Int) := by simp [IntKind.wrap, IntKind.bits, IntKind.signed]; omega
          have HJM := hid (show i + 1 ≤ ks.length ∧ ks.length - (i + 1) < ks.length - i by omega)
          obtain ⟨j1, hj1⟩ : ∃ j1, i + 1 = j1 := ⟨_, rfl⟩
          rw [hj1] at wj HJM
          have HCL := hid (show ∀ u, Below w.heap.size w u → u.cell? ⟨b, off + i, none⟩ = some (.int .u64 xk) from fun u hu => by
            obtain ⟨b', off', e', _, y1⟩ := (HKZ.out.on hu) i hin
            cases e'
            rw [hx] at y1
            exact y1)
          have HD := hid (get_map HI.out.lx HI.out.tx xk)
          clear hx hi hin hj1
          go_wp2_with (first | (go_at_call 21; with_reducible refine (HD.out).mono ?_; rintro e w4 ⟨v9, b9, rfl, hk, hR⟩; have HI2 := hid (HI.out.still hk); have HR9 := hid hR; clear hk hR; refine Hid.out ?_))
          have HI2d := hid (HI2.out.on (below_drews (b := w4.drew) rfl rfl rfl rfl))
          have HDY := hid (get_map HI2d.out.ly HI2d.out.ty xk)
          have y1 := HCL.out _ HI2.out.bel
          have y3 := HI2.out.cyc
          refine hid ?_
          go_wp2_with fail
          go_region_held3 (fun w' => w'.cell? ⟨b, off + i, none⟩ = some (.int .u64 xk) ∧ w'.cell? ⟨CY, 0, none⟩ = some (.pointer (some ⟨Y, 0, none⟩))) (go_keep) (first | (go_at_call 21; with_reducible refine (HDY.out).mono ?_; rintro e w5 ⟨v8, b8, rfl, hk, hR⟩; have HI3 := hid (HI2d.out.still hk); have HR8 := hid hR; clear hk hR; have y1 := HCL.out _ HI3.out.bel; have y3 := HI3.out.cyc))
          obtain ⟨e1, e2⟩ := HS.out.get HI.out.tx HR9.out HR8.out
          subst e1 e2
          clear HR9 HR8
          refine Hid.out ?_
          refine hid ?_
          cases b9
          all_goals
            go_wp2_with fail
            go_roundw
            case rel => exact ⟨j1, HJM.out.1, rfl, HI3⟩
            case measure => simpa [intOf] using HJM.out.2
        · have hn : i = ks.length := by omega
          subst hn
          have f2 : ¬ (ks.length : Int) < (ks.length : Int) := by omega
          have HA := hid (fun u => allF_any X u)
          clear hi hin
          go_wp2_with (first | (go_at_call 23; with_reducible refine (HA.out _).mono ?_; rintro e w4 ⟨rfl, h3⟩; subst w4))
          rw [NF.out]
          go_wp2_with fail
          have HB2 := hid (show Below wr.heap.size wr ((wr.alloc (.cells #[.int .i64 0] 3)).alloc (.cells #[.pointer (some ⟨X, 0, none⟩)] 22)) from ((Below.refl _ wr).alloc (Nat.le_refl _) _).alloc (by simp) _)
          refine (wpIn_wide (n := 5)).1 ?_
          refine trR R CY X P Y PY n room m roo wr.heap.size (wr.heap.size + 1) T T' (has := by rfl) (hc := by rfl) _ _ _ _ _ _ _ _ _ _ _ _ _ _ _ _ _ _ _ _ _ _ _ _ _ _ _ _ _ _ _ _ _ _ _ _ _ _ _ _ _ _ _ _ _ _ _ _ _ _ _ _ _ _ _ _ _ _ _ _ _ _ _ _ _ _ _ _ _ _ _ _ _ _ _ _ _ _ _ _ _ _ _ _ _ _ _ _ _ _ _ _ _ _ _ _ _ _ _ _ _ _ _ _ _ _ _ _ _ _ _ _ _ _ _ _ _ _ _ _ _ _ _ _ _ _ _ _ _ _ _ _ _ _ _ _ _ _ _ _ _ _ _ _ _ _ _ _ _ _ _ _ _ _ _ _ _ _ _ _ _ _ _ _ _ _ _ _ _ _ _ _ _ _ _ _ _ _ _ _ _ _ _ _ _ _ _ _ _ _ _ _ _ _ _ _ _ _ _ _ _ _ (HI.out.on HB2.out) HS.out ?_ ?_ (HI.out.bel.size) ?_
          · rw [Below.heap_alloc _ _ _ (by simp)]; exact World.alloc_heap_new _ _
          · have := World.alloc_heap_new (wr.alloc (.cells #[.int .i64 0] 3)) (.cells #[.pointer (some ⟨X, 0, none⟩)] 22)
            simpa using this
          intro D W hD hTq hN hDf
          have HDG := hid (show w.heap.size ≤ D from Nat.le_trans (Nat.le_trans HI.out.bel.size HB2.out.size) hD)
          have HNG := hid (show ¬ wr.heap.size < w.heap.size from by have := HI.out.bel.size; omega)
          obtain ⟨N, hNw⟩ : ∃ N, wr.heap.size = N := ⟨_, rfl⟩
          rw [hNw] at hN HNG ⊢
          have HE := hid (Te.mk (D := D) hTq hN hDf)
          clear hTq hDf hD hNw HI HB2 hN
          clear HV HBD NF HA HKZ
          go_wp2_with fail
          have HEd := hid (HE.out.on (below_drews (b := W.drew) rfl rfl rfl rfl))
          have HLX := hid (len_any HEd.out.tq.lx)
          have HLY := hid (len_any HEd.out.tq.ly)
          rw [← HS.out.cnt] at HLY
          have m1 := HE.out.cy
          have m2 := HE.out.cN
          obtain ⟨cn, hcn⟩ : ∃ cn, Ix.cnt T n = cn := ⟨_, rfl⟩
          rw [hcn] at HLX HLY m2
          have q1 : ¬ CY = R := fun e => by have := HE.out.tq.cy; rw [e, HE.out.tq.r] at this; simp at this
          have q2 : ¬ N = R := fun e => by have := HE.out.rN; rw [e, HE.out.tq.r] at this; simp at this
          have q3 : ¬ R = CY := fun e => q1 e.symm
          have q4 : ¬ R = N := fun e => q2 e.symm
          have m3 := (HE.out.fin (Below.refl _ _) HWR.out HDG.out).1
          have m4 := (HE.out.fin (Below.refl _ _) HWR.out HDG.out).2.1
          have HF := hid (fun u (b : Below W.heap.size W u) => (HE.out.fin b HWR.out HDG.out).2.2)
          clear HE HEd HS
          go_region_held3 (fun w' => w'.cell? ⟨CY, 0, none⟩ = some (.pointer (some ⟨Y, 0, none⟩)) ∧ w'.cell? ⟨N, 0, none⟩ = some (.int .i64 (cn : Nat))) (go_keep) (first | (go_at_call 11; with_reducible refine (HLX.out).mono ?_; rintro e w6 ⟨rfl, h9⟩; subst w6) | (go_at_call 11; with_reducible refine (HLY.out).mono ?_; rintro e w6 ⟨rfl, h9⟩; subst w6))
          refine Hid.out ?_
          refine hid ?_
          go_wp2_with fail
          obtain ⟨g3, g4, g5⟩ := HF.out W (Below.refl _ _)
          refine ⟨by simp, .inl ⟨_, _, rfl, run_takeDeferred g3, ?_⟩⟩
          have h3 : (((W.setCell ⟨R, 0, none⟩ (.bool true)).drew).putObj D (.deferred none)).cell? ⟨R, 0, none⟩ = some (.bool true) := g4
          refine ⟨.bool true, ?_, rfl, g5.drew⟩
          simp [results, Try.f8, go_sem, h3]
end Go.Proofs.Ytehjmdolmkbncaa
