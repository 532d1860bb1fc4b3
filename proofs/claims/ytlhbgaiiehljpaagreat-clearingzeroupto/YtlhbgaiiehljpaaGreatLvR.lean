/-
  LvR
-/
import Derived.Test.YtlhbgaiiehljpaaGreatGAa
import Derived.Test.YtlhbgaiiehljpaaGreatLvQ
import Derived.Test.YtlhbgaiiehljpaaGreatGAr
namespace Go.Proofs.YtlhbgaiiehljpaaGreat.Ac
open List renaming getElem?_toArray → lqA, getElem?_cons_succ → lqB, getElem?_cons_zero → lqC
open List renaming getElem_toArray → lgA, getElem_cons_succ → lgB, getElem_cons_zero → lgC, setIfInBounds_toArray → lsA, set_cons_zero → lsB, set_cons_succ → lsC
open Go.RowKit Go.Deep Go.Maps MonM Go.Proofs.YtlhbgaiiehljpaaGreat
set_option linter.unusedVariables false
set_option linter.unusedSimpArgs false
set_option maxHeartbeats 8000000
set_option maxRecDepth 100000
attribute [local go_sem ↓] Go.wp_at_zero Go.wp_at_succ
structure Cr where
 m : Int
 nd : Int
 hv : Int
def crow (c : Cr) : List Value := [.int .u32 c.m, .int .u64 (hiW c.nd), .int .u64 (loW c.nd), .int .u64 (hiW c.hv), .int .u64 (loW c.hv)]
def clv (l : List Cr) : List Value := l.flatMap crow
def pbs (l : List Nat) : List Value := l.map pb
def nOf (g : Int → Option Int) (m : Int) : Int := (g m).getD 0
def pc (g : Int → Option Int) (s : Sv) : Sv := if s.ou = true then s else if nOf g s.m ≤ s.mg then { s with ca := false } else if s.ca = true then s else { s with ca := true }
def clOf (g : Int → Option Int) (y : Nat × Sv) : List Cr := if y.2.ou = true then [] else if nOf g y.2.m ≤ y.2.mg then [] else if y.2.ca = true then [] else [⟨y.2.m, nOf g y.2.m, y.2.mg⟩]
def flOf (g : Int → Option Int) (y : Nat × Sv) : List Nat := if y.2.ou = true then [] else if nOf g y.2.m ≤ y.2.mg then [] else if y.2.ca = true then [y.1] else []
theorem pc_m (g : Int → Option Int) (s : Sv) : (pc g s).m = s.m := by unfold pc; split; rfl; split; rfl; split <;> rfl
def pcl (g : Int → Option Int) (l : List (Nat × Sv)) : List (Nat × Sv) := l.map fun y => (y.1, pc g y.2)
def cur (g : Int → Option Int) (l : List (Nat × Sv)) (i : Nat) : List (Nat × Sv) := pcl g (l.take i) ++ l.drop i
theorem cur_len (g : Int → Option Int) (l : List (Nat × Sv)) (i : Nat) : (cur g l i).length = l.length := by simp [cur, pcl]; omega
theorem cur_bks (g : Int → Option Int) (l : List (Nat × Sv)) (i : Nat) : bks (cur g l i) = bks l := by
 unfold bks cur pcl
 rw [List.map_append, List.map_map]
 show (l.take i).map (·.1) ++ (l.drop i).map (·.1) = l.map (·.1)
 rw [← List.map_append, List.take_append_drop]
theorem cur_get (g : Int → Option Int) (l : List (Nat × Sv)) {i : Nat} (hi : i < l.length) : (cur g l i)[i]'(by rw [cur_len]; exact hi) = l[i] := by
 unfold cur
 rw [List.getElem_append_right (by simp [pcl]; omega)]
 simp [pcl, Nat.min_eq_left (Nat.le_of_lt hi)]
theorem cur_mem (g : Int → Option Int) (l : List (Nat × Sv)) {i : Nat} (hi : i < l.length) : l[i] ∈ cur g l i := by
 rw [← cur_get g l hi]
 exact List.getElem_mem _
theorem cur_next (g : Int → Option Int) {l : List (Nat × Sv)} (h : Up l) {i : Nat} (hi : i < l.length) : sset (cur g l i) (pc g l[i].2) = cur g l (i + 1) := by
 have e1 : l.drop i = l[i] :: l.drop (i + 1) := List.drop_eq_getElem_cons hi
 have e2 : l.take (i + 1) = l.take i ++ [l[i]] := List.take_succ_eq_append_getElem hi
 have h2 := h
 rw [← List.take_append_drop i l, e1] at h2
 unfold Up at h2
 rw [List.pairwise_append, List.pairwise_cons] at h2
 have a1 : sset (pcl g (l.take i)) (pc g l[i].2) = pcl g (l.take i) := by
  unfold sset
  rw [List.map_congr_left (g := id) (fun z hz => ?_), List.map_id]
  obtain ⟨y, hy, rfl⟩ := List.mem_map.1 hz
  have := h2.2.2 y hy l[i] (List.mem_cons_self ..)
  rw [if_neg]
  ·rfl
  ·show ¬ (pc g y.2).m = (pc g l[i].2).m
   rw [pc_m, pc_m]
   omega
 have a2 : sset (l.drop (i + 1)) (pc g l[i].2) = l.drop (i + 1) := by
  unfold sset
  rw [List.map_congr_left (g := id) (fun z hz => ?_), List.map_id]
  have := h2.2.1.1 z hz
  rw [if_neg]
  ·rfl
  ·show ¬ z.2.m = (pc g l[i].2).m
   rw [pc_m]
   omega
 unfold cur
 rw [e1, e2]
 unfold sset at a1 a2 ⊢
 rw [List.map_append, List.map_cons, a1, a2, if_pos (by rw [pc_m])]
 unfold pcl
 rw [List.map_append, List.append_assoc]
 rfl
theorem cur_zero (g : Int → Option Int) (l : List (Nat × Sv)) : cur g l 0 = l := by simp [cur, pcl]
theorem cur_all (g : Int → Option Int) (l : List (Nat × Sv)) : cur g l l.length = pcl g l := by simp [cur]
theorem infoC5 : (Tryz.prog.info? 68).map (fun i => (i.zero, i.size, i.bytes)) = some (some (.agg #[.int .u32 0, .int .u64 0, .int .u64 0, .int .u64 0, .int .u64 0]), 5, 40) := by kernel_rfl
theorem own_nil (w : World) (base : Nat) (e : TypeId) (size : Nat) : w.ownsRow base e size (.slice none 0 0) 0 [] := ⟨by simp, .inl ⟨rfl, rfl⟩⟩
theorem own_lo {base : Nat} {w : World} {e : TypeId} {size n : Nat} {v : Value} {xs : List Value} (h : w.ownsRow base e size v n xs) {g : Nat} (hg : v.ownBlock = some g) : base ≤ g ∧ g < w.heap.size := by
 obtain ⟨cur, hc⟩ := own_ty h hg
 obtain ⟨h1, ⟨rfl, _⟩ | ⟨g', c, cur, rfl, r1, r2, r⟩⟩ := h
 ·cases hg
 ·cases hg; exact ⟨r1, row_lt hc⟩
theorem own_kp {F : Nat → Prop} {base : Nat} {w w' : World} {e : TypeId} {size n : Nat} {v : Value} {xs : List Value} (h : w.ownsRow base e size v n xs) (hk : Kp F w w') (hF : ∀ r cs, w.heap[r]? = some (.cells cs e (0, 0)) → base ≤ r → ¬ F r) : w'.ownsRow base e size v n xs :=
 own_same h (fun g hg => by
  obtain ⟨cur, hc⟩ := own_ty h hg
  exact hk.obj g (row_lt hc) (hF _ _ hc (own_lo h hg).1))
theorem call_any {H : Nat} {o : Int} {p : Option Addr} {c : Nat} {l : List (Nat × Sv)} {M : Option Nat} {n : Nat} {f : HoP} (w : World) (h : Ho w H o p c l M n f) (ha : AmtL l) (N jn : Nat) (g : Int → Option Int) (hg : Mp kvU w N jn g) (hga : AmtG g) (hu : ∀ y ∈ l, U32 y.2.m) :
  Calls Tryz.prog 42 #[pb H, .map (some N)] w fun e w' => ∃ qc nc dc qf nf df, e = .returned (.tuple #[.slice qc nc dc, .slice qf nf df]) ∧ nc = (l.flatMap (clOf g)).length ∧ nf = (l.flatMap (flOf g)).length ∧ Ho w' H o p c (pcl g l) M n f ∧ w'.ownsRow w.heap.size 68 5 (.slice qc nc dc) nc (clv (l.flatMap (clOf g))) ∧ w'.ownsRow w.heap.size 104 1 (.slice qf nf df) nf (pbs (l.flatMap (flOf g))) ∧ Kp (fun j => j ∈ bks l) w w' := by
 have HH := hid h
 have hsz := h.sz
 have hkc := (own_capc h.me.own).1
 have k1 := row_cell (hid h.row).out 1
 simp only [lqA, lqB, lqC] at k1
 obtain ⟨k, hk⟩ : ∃ k, l.length = k := ⟨_, rfl⟩
 have HK := hid hk
 rw [hk] at k1 hsz hkc
 obtain ⟨b0, hb0⟩ : ∃ b, w.heap.size = b := ⟨_, rfl⟩
 have HB0 := hid hb0
 have HOB := hid (show ∀ j, Ob H p (bks l) M j → j < b0 from fun j hj => by rw [← hb0]; exact h.lt hj)
 have HNb := hid (show N < b0 from by rw [← hb0]; exact hg.lt)
 have HG0 := hid hg
 have HGA := hid hga
 have HA := hid ha
 have HU := hid hu
 have HSZ := hid hsz
 rw [hb0]
 obtain ⟨i5, hi5, hz5, hs5, hy5⟩ := info_parts infoC5
 have I5 := hid (And.intro hi5 (And.intro hz5 (And.intro hs5 hy5)))
 obtain ⟨iS, hiS, hzS, hsS, hyS⟩ := info_parts infoS
 have IS := hid (And.intro hiS (And.intro hzS (And.intro hsS hyS)))
 clear h hk hb0 hg hga ha hu hi5 hz5 hs5 hy5 hiS hzS hsS hyS
 go_enter Tryz.func42, Tryz.ntmps42
 go_upto_region 2 with fail
 go_loopw [4, 5, 14] (fun cv fv iv wr => ∃ (i : Nat) (qc : Option Addr) (nc dc : Nat) (qf : Option Addr) (nf df : Nat), i ≤ k ∧ iv = .int .i64 i ∧ cv = .slice qc nc dc ∧ fv = .slice qf nf df ∧ Hid (nc = ((l.take i).flatMap (clOf g)).length ∧ nc ≤ i) ∧ Hid (nf = ((l.take i).flatMap (flOf g)).length ∧ nf ≤ i) ∧ Hid (Ho wr H o p c (cur g l i) M n f) ∧ Hid (Mp kvU wr N jn g) ∧ Hid (wr.ownsRow b0 68 5 (.slice qc nc dc) nc (clv ((l.take i).flatMap (clOf g)))) ∧ Hid (wr.ownsRow b0 104 1 (.slice qf nf df) nf (pbs ((l.take i).flatMap (flOf g)))) ∧ Hid (Kp (fun j => j ∈ bks l) w wr)) (fun _ _ iv _ => k - (intOf iv).toNat)
 case atStart => exact ⟨0, none, 0, 0, none, 0, 0, Nat.zero_le _, rfl, rfl, rfl, ⟨rfl, Nat.le_refl _⟩, ⟨rfl, Nat.le_refl _⟩, by rw [cur_zero]; exact HH, HG0, own_nil _ _ _ _, own_nil _ _ _ _, Kp.refl _ _⟩
 case round =>
  obtain ⟨i, qc, nc, dc, qf, nf, df, hik, rfl, rfl, rfl, HNC, HNF, HO, HG, OC, OF, KW⟩ := hrel
  clear k1
  by_cases hlt : i < k
  ·have hil : i < l.length := by rw [HK.out]; exact hlt
   obtain ⟨gp, rfl, a0, a1⟩ := HO.out.me.at (show i < (cur g l i).length from by rw [cur_len]; exact hil)
   rw [cur_get g l hil] at a0 a1
   have HMEM := hid (cur_mem g l hil)
   have HNX := hid (cur_next g HH.out.up hil)
   have hAy := HA.out _ (List.getElem_mem hil)
   have hUy := HU.out _ (List.getElem_mem hil)
   have HTC := hid (show (l.take (i + 1)).flatMap (clOf g) = (l.take i).flatMap (clOf g) ++ clOf g l[i] from by rw [List.take_succ_eq_append_getElem hil, List.flatMap_append]; simp)
   have HTF := hid (show (l.take (i + 1)).flatMap (flOf g) = (l.take i).flatMap (flOf g) ++ flOf g l[i] from by rw [List.take_succ_eq_append_getElem hil, List.flatMap_append]; simp)
   have HYB := hid (show l[i].1 ∈ bks l from List.mem_map.2 ⟨_, List.getElem_mem hil, rfl⟩)
   obtain ⟨y, hy⟩ : ∃ y, l[i] = y := ⟨_, rfl⟩
   rw [hy] at a0 a1 HMEM HNX hAy hUy HTC HTF HYB
   obtain ⟨yb, ym, yf, yg, yc, yo⟩ := y
   have RY := hid a1
   have i0 : (0 : Int) ≤ (i : Int) := by omega
   have i1 : (i : Int) < (k : Int) := by omega
   have HYB := hid (show yb ∈ bks l from HYB.out)
   clear a1 hy
   have y0 := row_cell RY.out 0
   have y2 := row_cell RY.out 2
   have y3 := row_cell RY.out 3
   have y4 := row_cell RY.out 4
   have y5 := row_cell RY.out 5
   simp only [lqA, lqB, lqC] at y0 y2 y3 y4 y5
   cases yo with
   | true =>
    have HPC := hid (show cur g l (i + 1) = sset (cur g l i) ⟨ym, yf, yg, yc, true⟩ from HNX.out.symm)
    have HS1 := hid (show sset (cur g l i) ⟨ym, yf, yg, yc, true⟩ = cur g l i from by
     unfold sset
     rw [List.map_congr_left (g := id) (fun z hz => ?_), List.map_id]
     by_cases c : z.2.m = ym
     ·rw [if_pos c]
      have := up_one HO.out.up hz HMEM.out c
      rw [this]
      rfl
     ·rw [if_neg c]
      rfl)
    go_wp2
    go_roundw
    case rel =>
     refine ⟨i + 1, qc, nc, dc, qf, nf, df, by omega, by go_num, rfl, rfl, hid ⟨?_, by have := HNC.out.2; omega⟩, hid ⟨?_, by have := HNF.out.2; omega⟩, ?_, HG, ?_, ?_, KW⟩
     ·rw [HTC.out, HNC.out.1]; simp [clOf]
     ·rw [HTF.out, HNF.out.1]; simp [flOf]
     ·rw [HPC.out, HS1.out]; exact HO
     ·rw [HTC.out, show clOf g (yb, (⟨ym, yf, yg, yc, true⟩ : Sv)) = [] from by simp [clOf], List.append_nil]; exact OC
     ·rw [HTF.out, show flOf g (yb, (⟨ym, yf, yg, yc, true⟩ : Sv)) = [] from by simp [flOf], List.append_nil]; exact OF
    case measure => simp [intOf]; omega
   | false =>
    obtain ⟨nd, hnd⟩ : ∃ d, nOf g ym = d := ⟨_, rfl⟩
    have hga2 := HGA.out.get ym
    have LG := (HG.out.get okU ym hUy)
    have e1 : (g ym).getD kvU.zero = nd := hnd
    have e2 : (g ym).getD 0 = nd := hnd
    rw [e1] at LG
    rw [e2] at hga2
    have LG : (Instr.lookup 85 (.map (some N)) (.int .u32 ym) false).run Tryz.prog wr = .ok (.agg #[.int .u64 (hiW nd), .int .u64 (loW nd)]) wr := LG
    have CC := hid (fun U => mcompare_any yg nd U hAy hga2)
    have HND := hid hnd
    obtain ⟨cv, hcv⟩ : ∃ v, cmp3 yg nd = v := ⟨_, rfl⟩
    rw [hcv] at CC
    have HCV := hid hcv
    unfold mv at CC
    obtain ⟨gD, hgD⟩ : ∃ g, wr.heap.size = g := ⟨_, rfl⟩
    obtain ⟨W1, hW1⟩ : ∃ W, wr.alloc (.cells #[.int .u64 0, .int .u64 0] 33) = W := ⟨_, rfl⟩
    obtain ⟨W2, hW2⟩ : ∃ W, W1.setRow gD #[.int .u64 (hiW nd), .int .u64 (loW nd)] = W := ⟨_, rfl⟩
    have b1 : Below wr.heap.size wr W1 := by rw [← hW1]; exact ball _ _
    have ZD := hid (show W1.heap[gD]? = some (.cells #[.int .u64 0, .int .u64 0] 33 (0, 0)) from by rw [← hW1, ← hgD]; exact World.alloc_heap_new _ _)
    have RD := hid (show W2.heap[gD]? = some (.cells #[.int .u64 (hiW nd), .int .u64 (loW nd)] 33 (0, 0)) from by rw [← hW2]; exact setRow_heap _ _ _ _ 33 (0, 0) ZD.out)
    have B2 := hid (show Below wr.heap.size wr W2 from by rw [← hW2]; exact setRow_below b1 (Nat.le_of_eq hgD))
    have RY2 := hid (row_on RY.out B2.out)
    clear b1 hAy hUy e1 e2 hga2 hnd hcv
    go_upto_region 8 with (refine wpList_store_row (by rfl) 33 (.tmp 8) (.tmp 27) (by rfl) gD #[.int .u64 (hiW nd), .int .u64 (loW nd)] (by rfl) (by rfl) 33 _ ZD.out infoM2 (by rfl) (by simp [Value.oneCell']) ?_; rw [hW2])
    clear hgD hW1 hW2 ZD LG y0 y2 y3 y4 y5 a0
    have BRF := hid (Below.refl W2.heap.size W2)
    obtain ⟨V1, hV1⟩ : ∃ U, W2.drew = U := ⟨_, rfl⟩
    have bV1 := hid (show Below W2.heap.size W2 V1 from by rw [← hV1]; exact bdrew1 _)
    have DV1 := hid (btr BRF.out bV1.out)
    have r2 := hid (row_on RY2.out bV1.out)
    have r3 := hid (row_on RD.out bV1.out)
    refine wp_region_held_drew (S := (fun U => U.cell? ⟨yb, 2, none⟩ = some (.int .u64 (hiW yg)) ∧ U.cell? ⟨yb, 3, none⟩ = some (.int .u64 (loW yg)) ∧ U.cell? ⟨gD, 0, none⟩ = some (.int .u64 (hiW nd)) ∧ U.cell? ⟨gD, 1, none⟩ = some (.int .u64 (loW nd)))) (by kernel_rfl) ?_ (fun hHeld => ?_)
    ·(try dsimp only); rw [hV1]; exact ⟨row_cell r2.out 2, row_cell r2.out 3, row_cell r3.out 0, row_cell r3.out 1⟩
    rw [hV1] at hHeld ⊢
    clear hV1
    refine' tkz 0 rfl ?_ ?_
    rotate_left
    ·(intro w hSw; (try dsimp only at hSw); go_simp; try (with_reducible rfl))
    try simp only [lgA, lgB, lgC, Act.put, lsA, lsB, lsC]
    refine' tkz 1 rfl ?_ ?_
    rotate_left
    ·(intro w hSw; (try dsimp only at hSw); go_simp; try (with_reducible rfl))
    try simp only [lgA, lgB, lgC, Act.put, lsA, lsB, lsC]
    refine' tkz 2 rfl ?_ ?_
    rotate_left
    ·(intro w hSw; (try dsimp only at hSw); go_simp; try (with_reducible rfl))
    try simp only [lgA, lgB, lgC, Act.put, lsA, lsB, lsC]
    refine' tkz 3 rfl ?_ ?_
    rotate_left
    ·(intro w hSw; (try dsimp only at hSw); go_simp; try (with_reducible rfl))
    try simp only [lgA, lgB, lgC, Act.put, lsA, lsB, lsC]
    refine' tkz 4 rfl ?_ ?_
    rotate_left
    ·(intro w hSw; (try dsimp only at hSw); go_simp; try (with_reducible rfl))
    try simp only [lgA, lgB, lgC, Act.put, lsA, lsB, lsC]
    refine wpAnyH_ready (rs := [5]) (by kernel_rfl) (by simp) ?_
    refine (AllReadyH.cons rfl (fun K hK => ?_) AllReadyH.nil)
    go_simp
    go_at_call 10
    with_reducible refine (CC.out V1).mono ?_
    rintro e X4 ⟨rfl, cX4⟩
    have bX4 := hid cX4
    clear cX4
    have DX4 := hid (btr DV1.out bX4.out)
    have r5 := hid (row_on r2.out bX4.out)
    have r6 := hid (row_on r3.out bX4.out)
    (try go_wp2_with fail)
    refine hK.out _ _ ?_ (fun hHeld => ?_)
    ·(try dsimp only); exact ⟨row_cell r5.out 2, row_cell r5.out 3, row_cell r6.out 0, row_cell r6.out 1⟩
    clear hK K
    try simp only [lgA, lgB, lgC, Act.put, lsA, lsB, lsC]
    refine' tkz 6 rfl ?_ ?_
    rotate_left
    ·(intro w hSw; (try dsimp only at hSw); go_simp; try (with_reducible rfl))
    try simp only [lgA, lgB, lgC, Act.put, lsA, lsB, lsC]
    refine' tkz 7 rfl ?_ ?_
    rotate_left
    ·(intro w hSw; (try dsimp only at hSw); go_simp; try (with_reducible rfl))
    try simp only [lgA, lgB, lgC, Act.put, lsA, lsB, lsC]
    refine wpAnyH_done (by kernel_rfl) ?_ _
    have B3 := hid (btr B2.out DX4.out)
    have RY3 := hid r5.out
    have RD3 := hid r6.out
    obtain ⟨W3, h3⟩ : ∃ U, X4 = U := ⟨_, rfl⟩
    rw [h3] at B3 RY3 RD3 ⊢
    clear h3
    have HO3 := hid (HO.out.on B3.out)
    have HG3 := hid (HG.out.on B3.out)
    have OC3 := hid (own_on OC.out B3.out)
    have OF3 := hid (own_on OF.out B3.out)
    have KW3 := hid (KW.out.trans (Kp.of (fun _ => False) B3.out) (fun g _ e => e.elim))
    have y0 := row_cell RY3.out 0
    have y2 := row_cell RY3.out 2
    have y3 := row_cell RY3.out 3
    have y4 := row_cell RY3.out 4
    simp only [lqA, lqB, lqC] at y0 y2 y3 y4
    have d0 := row_cell RD3.out 0
    have d1 := row_cell RD3.out 1
    simp only [lqA, lqB, lqC] at d0 d1
    by_cases hc : nd ≤ yg
    ·have v0 : decide (0 ≤ cv) = true := by have := HCV.out; unfold cmp3 at this; rw [decide_eq_true_iff]; split at this <;> (try split at this) <;> omega
     rw [v0]
     clear v0
     have f4 := row_frz RY3.out 4
     obtain ⟨X, hX⟩ : ∃ X, W3.setCell ⟨yb, 4, none⟩ (.bool false) = X := ⟨_, rfl⟩
     have kx := hid (show Kp (fun j => j = yb) W3 X from by rw [← hX]; exact Kp.set _ _ _ _)
     have RYX := hid (show X.heap[yb]? = some (.cells (srow ⟨ym, yf, yg, false, false⟩) 106 (0, 0)) from by rw [← hX]; exact set_row _ RY3.out (by rfl))
     have HPC := hid (show pc g ⟨ym, yf, yg, yc, false⟩ = ⟨ym, yf, yg, false, false⟩ from by unfold pc; rw [if_neg (fun h => by cases h)]; simp only [HND.out, if_pos hc])
     have HXX := hid hX
     clear hX
     have HOX := hid (HO3.out.sset HMEM.out (s := ⟨ym, yf, yg, false, false⟩) rfl kx.out RYX.out)
     have nyX : ∀ {r : Nat} {cs : Array Value} {t : TypeId}, W3.heap[r]? = some (.cells cs t (0, 0)) → t ≠ 106 → ¬ r = yb := fun e ht => row_ne e RY3.out ht
     have HGX := hid (HG3.out.kept kx.out (fun e => by obtain ⟨es, cl, e3⟩ := Mp.obj HG3.out; rw [e, RY3.out] at e3; cases e3))
     have OCX := hid (own_kp OC3.out kx.out (fun r cs e _ => nyX e (by decide)))
     have OFX := hid (own_kp OF3.out kx.out (fun r cs e _ => nyX e (by decide)))
     have KWX := hid (KW3.out.trans kx.out (fun g _ e => by rw [e]; exact HYB.out))
     clear nyX
     go_wp2
     rw [HXX.out]
     go_roundw
     case rel =>
      refine ⟨i + 1, qc, nc, dc, qf, nf, df, by omega, by go_num, rfl, rfl, hid ⟨?_, by have := HNC.out.2; omega⟩, hid ⟨?_, by have := HNF.out.2; omega⟩, ?_, HGX, ?_, ?_, KWX⟩
      ·rw [HTC.out, HNC.out.1]; simp [clOf, HND.out, hc]
      ·rw [HTF.out, HNF.out.1]; simp [flOf, HND.out, hc]
      ·rw [← HNX.out, HPC.out]; exact HOX
      ·rw [HTC.out, show clOf g (yb, (⟨ym, yf, yg, yc, false⟩ : Sv)) = [] from by simp [clOf, HND.out, hc], List.append_nil]; exact OCX
      ·rw [HTF.out, show flOf g (yb, (⟨ym, yf, yg, yc, false⟩ : Sv)) = [] from by simp [flOf, HND.out, hc], List.append_nil]; exact OFX
     case measure => simp [intOf]; omega
    ·have v0 : decide (0 ≤ cv) = false := by have := HCV.out; unfold cmp3 at this; rw [decide_eq_false_iff_not]; split at this <;> (try split at this) <;> omega
     rw [v0]
     clear v0
     have HNC2 := hid hc
     cases yc with
     | true =>
      have HPC := hid (show pc g ⟨ym, yf, yg, true, false⟩ = ⟨ym, yf, yg, true, false⟩ from by unfold pc; rw [if_neg (fun h => by cases h)]; simp only [HND.out, if_neg HNC2.out]; rfl)
      have HS1 := hid (show sset (cur g l i) ⟨ym, yf, yg, true, false⟩ = cur g l i from by
       unfold sset
       rw [List.map_congr_left (g := id) (fun z hz => ?_), List.map_id]
       by_cases c : z.2.m = ym
       ·rw [if_pos c]
        have := up_one HO.out.up hz HMEM.out c
        rw [this]
        rfl
       ·rw [if_neg c]
        rfl)
      obtain ⟨X, hX⟩ : ∃ X, W3.alloc (.cells #[pb yb] 104) = X := ⟨_, rfl⟩
      have BX := hid (show Below W3.heap.size W3 X from by rw [← hX]; exact ball _ _)
      have OFX := hid (own_on OF3.out BX.out)
      have RN := hid (show ∀ j u, ([pb yb] : List Value)[j]? = some u → X.cell? ((⟨W3.heap.size, 0, none⟩ : Addr).add j) = some u from fun j u hj => by
       rw [Addr.add_lit, Nat.zero_add, row_cell (show X.heap[W3.heap.size]? = some (.cells #[pb yb] 104 (0, 0)) from by rw [← hX]; exact World.alloc_heap_new _ _)]
       simpa using hj)
      have H1 := hid (show ∀ u ∈ ([pb yb] : List Value), u.oneCell' = true from fun u hu => by simp at hu; subst hu; rfl)
      have HXX := hid hX
      have HBX := hid (show b0 ≤ X.heap.size from by have h1 := BX.out.size; have h2 := KW3.out.size; rw [HB0.out] at h2; omega)
      clear hX hc
      go_wp2_with (rw [HXX.out]; at_builtin; refine wpList_append_lies X (by rfl) (.tmp 60) (.tmp 62) 97 (by rfl) b0 104 iS _ 1 8 Tryz.underlying97 IS.out.1 IS.out.2.1 IS.out.2.2.1 IS.out.2.2.2 rfl (by decide) _ nf (pbs ((l.take i).flatMap (flOf g))) (by rfl) OFX.out ⟨W3.heap.size, 0, none⟩ 1 1 [pb yb] (by rfl) (by rfl) RN.out H1.out (by decide) (by have := HNF.out.2; have := HSZ.out; unfold maxLen; omega) (by have := HNF.out.2; have := HSZ.out; omega) HBX.out _ rfl ?_; intro g9 cap9 w9 h1 h2 h3 h4; have O9 := hid h1; have G9 := hid h2; clear h1 h2 h3 h4)
      go_roundw
      case rel =>
       have k9 : Kp (fun j => b0 ≤ j) W3 w9 := (Kp.of (fun j => b0 ≤ j) BX.out).trans (⟨G9.out.os, G9.out.tape, G9.out.output, G9.out.size, fun j hj hne => G9.out.block j hj (fun e => hne (own_lo OFX.out e.symm).1)⟩ : Kp (fun j => b0 ≤ j) X w9) (fun g _ e => e)
       refine ⟨i + 1, qc, nc, dc, some ⟨g9, 0, none⟩, nf + 1, cap9, by omega, by go_num, rfl, rfl, hid ⟨?_, by have := HNC.out.2; omega⟩, hid ⟨?_, by have := HNF.out.2; omega⟩, ?_, hid (HG3.out.kept k9 (by have := HNb.out; omega)), ?_, ?_, hid (KW3.out.trans k9 (fun j hj e => by have := HB0.out; omega))⟩
       ·rw [HTC.out, HNC.out.1]; simp [clOf]
       ·rw [HTF.out, List.length_append, ← HNF.out.1]; simp [flOf, HND.out, HNC2.out]
       ·rw [← HNX.out, HPC.out, HS1.out]; exact hid (HO3.out.kept k9 (fun j hj e => by rw [cur_bks] at hj; have := HOB.out j hj; omega))
       ·rw [HTC.out, show clOf g (yb, (⟨ym, yf, yg, true, false⟩ : Sv)) = [] from by simp [clOf], List.append_nil]
        have oc := own_on OC3.out BX.out
        exact hid (own_same oc (fun j hj => G9.out.block j (own_lo oc hj).2 (fun e => by
         obtain ⟨c1, e1⟩ := own_ty oc hj
         obtain ⟨c2, e2⟩ := own_ty OFX.out e.symm
         rw [e1] at e2
         injection e2 with e2
         injection e2 with _ e2
         exact absurd e2 (by decide))))
       ·rw [HTF.out, show flOf g (yb, (⟨ym, yf, yg, true, false⟩ : Sv)) = [yb] from by simp [flOf, HND.out, HNC2.out]]
        unfold pbs
        rw [List.map_append]
        exact O9
      case measure => simp [intOf]; omega
     | false =>
      have f4 := row_frz RY3.out 4
      obtain ⟨X, hX⟩ : ∃ X, W3.setCell ⟨yb, 4, none⟩ (.bool true) = X := ⟨_, rfl⟩
      have kx := hid (show Kp (fun j => j = yb) W3 X from by rw [← hX]; exact Kp.set _ _ _ _)
      have RYX := hid (show X.heap[yb]? = some (.cells (srow ⟨ym, yf, yg, true, false⟩) 106 (0, 0)) from by rw [← hX]; exact set_row _ RY3.out (by rfl))
      have RDX := hid (kx.out.row RD3.out (row_ne RD3.out RY3.out (by decide)))
      have HPC := hid (show pc g ⟨ym, yf, yg, false, false⟩ = ⟨ym, yf, yg, true, false⟩ from by unfold pc; rw [if_neg (fun h => by cases h)]; simp only [HND.out, if_neg HNC2.out]; rfl)
      have HXX := hid hX
      clear hX hc
      have HOX := hid (HO3.out.sset HMEM.out (s := ⟨ym, yf, yg, true, false⟩) rfl kx.out RYX.out)
      have nyX : ∀ {r : Nat} {cs : Array Value} {t : TypeId}, W3.heap[r]? = some (.cells cs t (0, 0)) → t ≠ 106 → ¬ r = yb := fun e ht => row_ne e RY3.out ht
      have HGX := hid (HG3.out.kept kx.out (fun e => by obtain ⟨es, cl, e3⟩ := Mp.obj HG3.out; rw [e, RY3.out] at e3; cases e3))
      have OCX := hid (own_kp OC3.out kx.out (fun r cs e _ => nyX e (by decide)))
      have OFX := hid (own_kp OF3.out kx.out (fun r cs e _ => nyX e (by decide)))
      have KWX := hid (KW3.out.trans kx.out (fun g _ e => by rw [e]; exact HYB.out))
      clear nyX
      go_upto_region 7 with fail
      rw [HXX.out]
      clear y0 y2 y3 y4 d0 d1 f4
      have BRX := hid (Below.refl X.heap.size X)
      obtain ⟨V7, hV7⟩ : ∃ U, X.drew = U := ⟨_, rfl⟩
      have bV7 := hid (show Below X.heap.size X V7 from by rw [← hV7]; exact bdrew1 _)
      have DV7 := hid (btr BRX.out bV7.out)
      have r8 := hid (row_on RYX.out bV7.out)
      have r9 := hid (row_on RDX.out bV7.out)
      refine wp_region_held_drew (S := (fun U => U.cell? ⟨yb, 0, none⟩ = some (.int .u32 ym) ∧ U.cell? ⟨yb, 2, none⟩ = some (.int .u64 (hiW yg)) ∧ U.cell? ⟨yb, 3, none⟩ = some (.int .u64 (loW yg)) ∧ U.cell? ⟨gD, 0, none⟩ = some (.int .u64 (hiW nd)) ∧ U.cell? ⟨gD, 1, none⟩ = some (.int .u64 (loW nd)))) (by kernel_rfl) ?_ (fun hHeld => ?_)
      ·(try dsimp only); rw [hV7]; exact ⟨row_cell r8.out 0, row_cell r8.out 2, row_cell r8.out 3, row_cell r9.out 0, row_cell r9.out 1⟩
      rw [hV7] at hHeld ⊢
      clear hV7
      refine' tkz 0 rfl ?_ ?_
      rotate_left
      ·(intro w hSw; (try dsimp only at hSw); go_simp; try (with_reducible rfl))
      try simp only [lgA, lgB, lgC, Act.put, lsA, lsB, lsC]
      refine' tkz 1 rfl ?_ ?_
      rotate_left
      ·(intro w hSw; (try dsimp only at hSw); go_simp; try (with_reducible rfl))
      try simp only [lgA, lgB, lgC, Act.put, lsA, lsB, lsC]
      refine' tkz 2 rfl ?_ ?_
      rotate_left
      ·(intro w hSw; (try dsimp only at hSw); go_simp; try (with_reducible rfl))
      try simp only [lgA, lgB, lgC, Act.put, lsA, lsB, lsC]
      refine' tkz 3 rfl ?_ ?_
      rotate_left
      ·(intro w hSw; (try dsimp only at hSw); go_simp; try (with_reducible rfl))
      try simp only [lgA, lgB, lgC, Act.put, lsA, lsB, lsC]
      refine' tkz 4 rfl ?_ ?_
      rotate_left
      ·(intro w hSw; (try dsimp only at hSw); go_simp; try (with_reducible rfl))
      try simp only [lgA, lgB, lgC, Act.put, lsA, lsB, lsC]
      refine' tkz 5 rfl ?_ ?_
      rotate_left
      ·(intro w hSw; (try dsimp only at hSw); go_simp; try (with_reducible rfl))
      try simp only [lgA, lgB, lgC, Act.put, lsA, lsB, lsC]
      refine' tkz 6 rfl ?_ ?_
      rotate_left
      ·(intro w hSw; (try dsimp only at hSw); go_simp; try (with_reducible rfl))
      try simp only [lgA, lgB, lgC, Act.put, lsA, lsB, lsC]
      refine' tkz 7 rfl ?_ ?_
      rotate_left
      ·(intro w hSw; (try dsimp only at hSw); go_simp; try (with_reducible rfl))
      try simp only [lgA, lgB, lgC, Act.put, lsA, lsB, lsC]
      refine' tkz 8 rfl ?_ ?_
      rotate_left
      ·(intro w hSw; (try dsimp only at hSw); go_simp; try (with_reducible rfl))
      try simp only [lgA, lgB, lgC, Act.put, lsA, lsB, lsC]
      refine' tkz 9 rfl ?_ ?_
      rotate_left
      ·(intro w hSw; (try dsimp only at hSw); go_simp; try (with_reducible rfl))
      try simp only [lgA, lgB, lgC, Act.put, lsA, lsB, lsC]
      refine' tkz 10 rfl ?_ ?_
      rotate_left
      ·(intro w hSw; (try dsimp only at hSw); go_simp; try (with_reducible rfl))
      try simp only [lgA, lgB, lgC, Act.put, lsA, lsB, lsC]
      refine wpAnyH_ready (rs := [11]) (by kernel_rfl) (by simp) ?_
      refine (AllReadyH.cons rfl (fun K hK => ?_) AllReadyH.nil)
      go_simp
      obtain ⟨X10, hX10⟩ : ∃ X, V7.alloc (.cells #[.int .u32 ym, .int .u64 (hiW nd), .int .u64 (loW nd), .int .u64 (hiW yg), .int .u64 (loW yg)] 68) = X := ⟨_, rfl⟩
      have bX10 := hid (show Below V7.heap.size V7 X10 from by rw [← hX10]; exact ball _ _)
      have zX10 : X10.heap[V7.heap.size]? = some (.cells #[.int .u32 ym, .int .u64 (hiW nd), .int .u64 (loW nd), .int .u64 (hiW yg), .int .u64 (loW yg)] 68 (0, 0)) := by rw [← hX10]; exact World.alloc_heap_new _ _
      have DX10 := hid (btr DV7.out bX10.out)
      have r12 := hid (row_on r8.out bX10.out)
      have r13 := hid (row_on r9.out bX10.out)
      obtain ⟨g11, hg11⟩ : ∃ g, V7.heap.size = g := ⟨_, rfl⟩
      have ne14 := hid (show yb ≠ g11 from by have := row_lt r8.out; omega)
      have ne15 := hid (show gD ≠ g11 from by have := row_lt r9.out; omega)
      have yg11 := hid (Nat.le_trans DV7.out.size (Nat.le_refl _))
      rw [hg11] at zX10 yg11
      have ZX10 := hid zX10
      rw [hX10, hg11]
      clear hX10 hg11 zX10
      refine hK.out _ _ ?_ (fun hHeld => ?_)
      ·(try dsimp only); exact ⟨row_cell r12.out 0, row_cell r12.out 2, row_cell r12.out 3, row_cell r13.out 0, row_cell r13.out 1⟩
      clear hK K
      try simp only [lgA, lgB, lgC, Act.put, lsA, lsB, lsC]
      refine wpAnyH_ready (rs := [12]) (by kernel_rfl) (by simp) ?_
      refine (AllReadyH.cons rfl (fun K hK => ?_) AllReadyH.nil)
      have OCa := hid (own_on OCX.out DX10.out)
      refine step_append_lies X10 (by rfl) (.tmp 31) (.tmp 42) 63 (by rfl) b0 68 i5 _ 5 40 Tryz.underlying63 I5.out.1 I5.out.2.1 I5.out.2.2.1 I5.out.2.2.2 rfl (by decide) _ nc (clv ((l.take i).flatMap (clOf g))) (by rfl) OCa.out ⟨g11, 0, none⟩ 1 1 [.int .u32 ym, .int .u64 (hiW nd), .int .u64 (loW nd), .int .u64 (hiW yg), .int .u64 (loW yg)] (by rfl) (by rfl) (fun j u hj => by rw [Addr.add_lit, Nat.zero_add, row_cell ZX10.out]; simpa using hj) (by simp [Value.oneCell']) (by decide) (by have := HNC.out.2; have := HSZ.out; unfold maxLen; omega) (by have := HNC.out.2; have := HSZ.out; omega) (by have h1 := DX10.out.size; have h2 := KWX.out.size; rw [HB0.out] at h2; omega) _ rfl (fun g9 cap9 w9 h1 h2 h3 h4 => ?_)
      have O9 := hid h1
      have G9 := hid h2
      clear h1 h2 h3 h4
      have k9 := hid (show Kp (fun j => b0 ≤ j) X w9 from (Kp.of (fun j => b0 ≤ j) DX10.out).trans (⟨G9.out.os, G9.out.tape, G9.out.output, G9.out.size, fun j hj hne => G9.out.block j hj (fun e => hne (own_lo OCa.out e.symm).1)⟩ : Kp (fun j => b0 ≤ j) X10 w9) (fun g _ e => e))
      have RY9 := hid (k9.out.row RYX.out (fun e => by have := HOB.out yb (.inr (.inr (.inl HYB.out))); omega))
      have RD9 := hid (show w9.heap[gD]? = some (.cells #[.int .u64 (hiW nd), .int .u64 (loW nd)] 33 (0, 0)) from (G9.out.block gD (row_lt r13.out) (fun e => by
       obtain ⟨c1, e1⟩ := own_ty OCa.out e.symm
       rw [r13.out] at e1
       injection e1 with e1
       injection e1 with _ e1
       exact absurd e1 (by decide))).trans r13.out)
      refine hK.out _ _ ?_ (fun hHeld => ?_)
      ·(try dsimp only); exact ⟨row_cell RY9.out 0, row_cell RY9.out 2, row_cell RY9.out 3, row_cell RD9.out 0, row_cell RD9.out 1⟩
      clear hK K
      try simp only [lgA, lgB, lgC, Act.put, lsA, lsB, lsC]
      refine' tkz 13 rfl ?_ ?_
      rotate_left
      ·(intro w hSw; (try dsimp only at hSw); go_simp; try (with_reducible rfl))
      try simp only [lgA, lgB, lgC, Act.put, lsA, lsB, lsC]
      refine wpAnyH_done (by kernel_rfl) ?_ _
      (try go_wp2)
      have DA9 := hid DX10.out
      go_roundw
      case rel =>
       refine ⟨i + 1, some ⟨g9, 0, none⟩, nc + 1, cap9, qf, nf, df, by omega, by go_num, rfl, rfl, hid ⟨?_, by have := HNC.out.2; omega⟩, hid ⟨?_, by have := HNF.out.2; omega⟩, ?_, hid (HGX.out.kept k9.out (by have := HNb.out; omega)), ?_, ?_, hid (KWX.out.trans k9.out (fun j hj e => by have := HB0.out; omega))⟩
       ·rw [HTC.out, List.length_append, ← HNC.out.1]; simp [clOf, HND.out, HNC2.out]
       ·rw [HTF.out, HNF.out.1]; simp [flOf]
       ·rw [← HNX.out, HPC.out]; exact hid (HOX.out.kept k9.out (fun j hj e => by rw [sset_bks, cur_bks] at hj; have := HOB.out j hj; omega))
       ·rw [HTC.out, show clOf g (yb, (⟨ym, yf, yg, false, false⟩ : Sv)) = [⟨ym, nd, yg⟩] from by simp [clOf, HND.out, HNC2.out]]
        unfold clv
        rw [List.flatMap_append]
        exact O9
       ·rw [HTF.out, show flOf g (yb, (⟨ym, yf, yg, false, false⟩ : Sv)) = [] from by simp [flOf], List.append_nil]
        have of := own_on OFX.out DA9.out
        exact hid (own_same of (fun j hj => G9.out.block j (own_lo of hj).2 (fun e => by
         obtain ⟨c1, e1⟩ := own_ty of hj
         obtain ⟨c2, e2⟩ := own_ty OCa.out e.symm
         rw [e1] at e2
         injection e2 with e2
         injection e2 with _ e2
         exact absurd e2 (by decide))))
      case measure => simp [intOf]; omega
  ·obtain rfl : i = k := by omega
   have hin : decide (i < i) = false := by simp
   have HT := hid (show l.take i = l from by rw [← HK.out, List.take_length])
   rw [HT.out] at HNC HNF OC OF
   have HCA := hid (show cur g l i = pcl g l from by rw [← HK.out, cur_all])
   rw [HCA.out] at HO
   go_wp2
   go_ret2
   exact ⟨qc, nc, dc, qf, nf, df, rfl, HNC.out.1, HNF.out.1, HO.out, OC.out, OF.out, KW.out⟩
end Go.Proofs.YtlhbgaiiehljpaaGreat.Ac
