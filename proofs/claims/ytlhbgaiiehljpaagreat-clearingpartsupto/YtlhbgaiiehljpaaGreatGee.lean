/-
  LvR
-/
import Derived.Test.YtlhbgaiiehljpaaGreatGz
import Derived.Test.YtlhbgaiiehljpaaGreatMonC
namespace Go.Proofs.YtlhbgaiiehljpaaGreat.Ac
open Go.RowKit Go.Deep Go.Maps MonM Go.Proofs.YtlhbgaiiehljpaaGreat
set_option linter.unusedVariables false
set_option linter.unusedSimpArgs false
set_option maxHeartbeats 8000000
set_option maxRecDepth 100000
attribute [local go_sem ↓] Go.wp_at_zero Go.wp_at_succ
structure Cr where
  m : Int
  nd : Int
  hv : Int
def crow (c : Cr) : List Value := [.int .u32 c.m, .int .u64 (hiW c.nd), .int .u64 (loW c.nd), .int .u64 (hiW c.hv), .int .u64 (loW c.hv)]
def clv (l : List Cr) : List Value := l.flatMap crow
def pbs (l : List Nat) : List Value := l.map pb
def nOf (g : Int → Option Int) (m : Int) : Int := (g m).getD 0
def pc (g : Int → Option Int) (s : Sv) : Sv := if s.ou = true then s else if nOf g s.m ≤ s.mg then { s with ca := false } else if s.ca = true then s else { s with ca := true }
def clOf (g : Int → Option Int) (y : Nat × Sv) : List Cr := if y.2.ou = true then [] else if nOf g y.2.m ≤ y.2.mg then [] else if y.2.ca = true then [] else [⟨y.2.m, nOf g y.2.m, y.2.mg⟩]
def flOf (g : Int → Option Int) (y : Nat × Sv) : List Nat := if y.2.ou = true then [] else if nOf g y.2.m ≤ y.2.mg then [] else if y.2.ca = true then [y.1] else []
theorem pc_m (g : Int → Option Int) (s : Sv) : (pc g s).m = s.m := by unfold pc; split; rfl; split; rfl; split <;> rfl
def pcl (g : Int → Option Int) (l : List (Nat × Sv)) : List (Nat × Sv) := l.map fun y => (y.1, pc g y.2)
def cur (g : Int → Option Int) (l : List (Nat × Sv)) (i : Nat) : List (Nat × Sv) := pcl g (l.take i) ++ l.drop i
theorem cur_len (g : Int → Option Int) (l : List (Nat × Sv)) (i : Nat) : (cur g l i).length = l.length := by simp [cur, pcl]; omega
theorem cur_bks (g : Int → Option Int) (l : List (Nat × Sv)) (i : Nat) : bks (cur g l i) = bks l := by
  unfold bks cur pcl
  rw [List.map_append, List.map_map]
  show (l.take i).map (·.1) ++ (l.drop i).map (·.1) = l.map (·.1)
  rw [← List.map_append, List.take_append_drop]
theorem cur_get (g : Int → Option Int) (l : List (Nat × Sv)) {i : Nat} (hi : i < l.length) : (cur g l i)[i]'(by rw [cur_len]; exact hi) = l[i] := by
  unfold cur
  rw [List.getElem_append_right (by simp [pcl]; omega)]
  simp [pcl, Nat.min_eq_left (Nat.le_of_lt hi)]
theorem cur_mem (g : Int → Option Int) (l : List (Nat × Sv)) {i : Nat} (hi : i < l.length) : l[i] ∈ cur g l i := by
  rw [← cur_get g l hi]
  exact List.getElem_mem _
theorem cur_next (g : Int → Option Int) {l : List (Nat × Sv)} (h : Up l) {i : Nat} (hi : i < l.length) : sset (cur g l i) (pc g l[i].2) = cur g l (i + 1) := by
  have e1 : l.drop i = l[i] :: l.drop (i + 1) := List.drop_eq_getElem_cons hi
  have e2 : l.take (i + 1) = l.take i ++ [l[i]] := List.take_succ_eq_append_getElem hi
  have h2 := h
  rw [← List.take_append_drop i l, e1] at h2
  unfold Up at h2
  rw [List.pairwise_append, List.pairwise_cons] at h2
  have a1 : sset (pcl g (l.take i)) (pc g l[i].2) = pcl g (l.take i) := by
    unfold sset
    rw [List.map_congr_left (g := id) (fun z hz => ?_), List.map_id]
    obtain ⟨y, hy, rfl⟩ := List.mem_map.1 hz
    have := h2.2.2 y hy l[i] (List.mem_cons_self ..)
    rw [if_neg]
    · rfl
    · show ¬ (pc g y.2).m = (pc g l[i].2).m
      rw [pc_m, pc_m]
      omega
  have a2 : sset (l.drop (i + 1)) (pc g l[i].2) = l.drop (i + 1) := by
    unfold sset
    rw [List.map_congr_left (g := id) (fun z hz => ?_), List.map_id]
    have := h2.2.1.1 z hz
    rw [if_neg]
    · rfl
    · show ¬ z.2.m = (pc g l[i].2).m
      rw [pc_m]
      omega
  unfold cur
  rw [e1, e2]
  unfold sset at a1 a2 ⊢
  rw [List.map_append, List.map_cons, a1, a2, if_pos (by rw [pc_m])]
  unfold pcl
  rw [List.map_append, List.append_assoc]
  rfl
theorem cur_zero (g : Int → Option Int) (l : List (Nat × Sv)) : cur g l 0 = l := by simp [cur, pcl]
theorem cur_all (g : Int → Option Int) (l : List (Nat × Sv)) : cur g l l.length = pcl g l := by simp [cur]
theorem infoC5 : (Tryz.prog.info? 68).map (fun i => (i.zero, i.size, i.bytes)) = some (some (.agg #[.int .u32 0, .int .u64 0, .int .u64 0, .int .u64 0, .int .u64 0]), 5, 40) := by kernel_rfl
theorem own_nil (w : World) (base : Nat) (e : TypeId) (size : Nat) : w.ownsRow base e size (.slice none 0 0) 0 [] := ⟨by simp, .inl ⟨rfl, rfl⟩⟩
theorem own_lo {base : Nat} {w : World} {e : TypeId} {size n : Nat} {v : Value} {xs : List Value} (h : w.ownsRow base e size v n xs) {g : Nat} (hg : v.ownBlock = some g) : base ≤ g ∧ g < w.heap.size := by
  obtain ⟨cur, hc⟩ := own_ty h hg
  obtain ⟨h1, ⟨rfl, _⟩ | ⟨g', c, cur, rfl, r1, r2, r⟩⟩ := h
  · cases hg
  · cases hg; exact ⟨r1, row_lt hc⟩
theorem own_kp {F : Nat → Prop} {base : Nat} {w w' : World} {e : TypeId} {size n : Nat} {v : Value} {xs : List Value} (h : w.ownsRow base e size v n xs) (hk : Kp F w w') (hF : ∀ r cs, w.heap[r]? = some (.cells cs e (0, 0)) → base ≤ r → ¬ F r) : w'.ownsRow base e size v n xs :=
  own_same h (fun g hg => by
    obtain ⟨cur, hc⟩ := own_ty h hg
    exact hk.obj g (row_lt hc) (hF _ _ hc (own_lo h hg).1))
theorem call_any {H : Nat} {o : Int} {p : Option Addr} {c : Nat} {l : List (Nat × Sv)} {M : Option Nat} {n : Nat} {f : HoP} (w : World) (h : Ho w H o p c l M n f) (ha : AmtL l) (N jn : Nat) (g : Int → Option Int) (hg : Mp kvU w N jn g) (hga : AmtG g) (hu : ∀ y ∈ l, U32 y.2.m) :
    Calls Tryz.prog 42 #[pb H, .map (some N)] w fun e w' => ∃ qc nc dc qf nf df, e = .returned (.tuple #[.slice qc nc dc, .slice qf nf df]) ∧ nc = (l.flatMap (clOf g)).length ∧ nf = (l.flatMap (flOf g)).length ∧ Ho w' H o p c (pcl g l) M n f ∧ w'.ownsRow w.heap.size 68 5 (.slice qc nc dc) nc (clv (l.flatMap (clOf g))) ∧ w'.ownsRow w.heap.size 104 1 (.slice qf nf df) nf (pbs (l.flatMap (flOf g))) ∧ Kp (fun j => j ∈ bks l) w w' := by
  have HH := hid h
  have hsz := h.sz
  have hkc := (own_capc h.me.own).1
  have k1 := row_cell (hid h.row).out 1
  simp only [List.getElem?_toArray, List.getElem?_cons_succ, List.getElem?_cons_zero] at k1
  obtain ⟨k, hk⟩ : ∃ k, l.length = k := ⟨_, rfl⟩
  have HK := hid hk
  rw [hk] at k1 hsz hkc
  obtain ⟨b0, hb0⟩ : ∃ b, w.heap.size = b := ⟨_, rfl⟩
  have HB0 := hid hb0
  have HOB := hid (show ∀ j, Ob H p (bks l) M j → j < b0 from fun j hj => by rw [← hb0]; exact h.lt hj)
  have HNb := hid (show N < b0 from by rw [← hb0]; exact hg.lt)
  have HG0 := hid hg
  have HGA := hid hga
  have HA := hid ha
  have HU := hid hu
  have HSZ := hid hsz
  rw [hb0]
  obtain ⟨i5, hi5, hz5, hs5, hy5⟩ := info_parts infoC5
  have I5 := hid (And.intro hi5 (And.intro hz5 (And.intro hs5 hy5)))
  obtain ⟨iS, hiS, hzS, hsS, hyS⟩ := info_parts infoS
  have IS := hid (And.intro hiS (And.intro hzS (And.intro hsS hyS)))
  clear h hk hb0 hg hga ha hu hi5 hz5 hs5 hy5 hiS hzS hsS hyS
  go_enter Tryz.func42, Tryz.ntmps42
  go_upto_region 2 with fail
  go_loopw [4, 5, 14] (fun cv fv iv wr => ∃ (i : Nat) (qc : Option Addr) (nc dc : Nat) (qf : Option Addr) (nf df : Nat), i ≤ k ∧ iv = .int .i64 i ∧ cv = .slice qc nc dc ∧ fv = .slice qf nf df ∧ Hid (nc = ((l.take i).flatMap (clOf g)).length ∧ nc ≤ i) ∧ Hid (nf = ((l.take i).flatMap (flOf g)).length ∧ nf ≤ i) ∧ Hid (Ho wr H o p c (cur g l i) M n f) ∧ Hid (Mp kvU wr N jn g) ∧ Hid (wr.ownsRow b0 68 5 (.slice qc nc dc) nc (clv ((l.take i).flatMap (clOf g)))) ∧ Hid (wr.ownsRow b0 104 1 (.slice qf nf df) nf (pbs ((l.take i).flatMap (flOf g)))) ∧ Hid (Kp (fun j => j ∈ bks l) w wr)) (fun _ _ iv _ => k - (intOf iv).toNat)
  case atStart => exact ⟨0, none, 0, 0, none, 0, 0, Nat.zero_le _, rfl, rfl, rfl, ⟨rfl, Nat.le_refl _⟩, ⟨rfl, Nat.le_refl _⟩, by rw [cur_zero]; exact HH, HG0, own_nil _ _ _ _, own_nil _ _ _ _, Kp.refl _ _⟩
  case round =>
    obtain ⟨i, qc, nc, dc, qf, nf, df, hik, rfl, rfl, rfl, HNC, HNF, HO, HG, OC, OF, KW⟩ := hrel
    clear k1
    by_cases hlt : i < k
    · have hil : i < l.length := by rw [HK.out]; exact hlt
      obtain ⟨gp, rfl, a0, a1⟩ := HO.out.me.at (show i < (cur g l i).length from by rw [cur_len]; exact hil)
      rw [cur_get g l hil] at a0 a1
      have HMEM := hid (cur_mem g l hil)
      have HNX := hid (cur_next g HH.out.up hil)
      have hAy := HA.out _ (List.getElem_mem hil)
      have hUy := HU.out _ (List.getElem_mem hil)
      have HTC := hid (show (l.take (i + 1)).flatMap (clOf g) = (l.take i).flatMap (clOf g) ++ clOf g l[i] from by rw [List.take_succ_eq_append_getElem hil, List.flatMap_append]; simp)
      have HTF := hid (show (l.take (i + 1)).flatMap (flOf g) = (l.take i).flatMap (flOf g) ++ flOf g l[i] from by rw [List.take_succ_eq_append_getElem hil, List.flatMap_append]; simp)
      have HYB := hid (show l[i].1 ∈ bks l from List.mem_map.2 ⟨_, List.getElem_mem hil, rfl⟩)
      obtain ⟨y, hy⟩ : ∃ y, l[i] = y := ⟨_, rfl⟩
      rw [hy] at a0 a1 HMEM HNX hAy hUy HTC HTF HYB
      obtain ⟨yb, ym, yf, yg, yc, yo⟩ := y
      have RY := hid a1
      have i0 : (0 : Int) ≤ (i : Int) := by omega
      have i1 : (i : Int) < (k : Int) := by omega
      have HYB := hid (show yb ∈ bks l from HYB.out)
      clear a1 hy
      have y0 := row_cell RY.out 0
      have y2 := row_cell RY.out 2
      have y3 := row_cell RY.out 3
      have y4 := row_cell RY.out 4
      have y5 := row_cell RY.out 5
      simp only [List.getElem?_toArray, List.getElem?_cons_succ, List.getElem?_cons_zero] at y0 y2 y3 y4 y5
      cases yo with
      | true =>
        have HPC := hid (show cur g l (i + 1) = sset (cur g l i) ⟨ym, yf, yg, yc, true⟩ from HNX.out.symm)
        have HS1 := hid (show sset (cur g l i) ⟨ym, yf, yg, yc, true⟩ = cur g l i from by
          unfold sset
          rw [List.map_congr_left (g := id) (fun z hz => ?_), List.map_id]
          by_cases c : z.2.m = ym
          · rw [if_pos c]
            have := up_one HO.out.up hz HMEM.out c
            rw [this]
            rfl
          · rw [if_neg c]
            rfl)
        go_wp2
        go_roundw
        case rel =>
          refine ⟨i + 1, qc, nc, dc, qf, nf, df, by omega, by go_num, rfl, rfl, hid ⟨?_, by have := HNC.out.2; omega⟩, hid ⟨?_, by have := HNF.out.2; omega⟩, ?_, HG, ?_, ?_, KW⟩
          · rw [HTC.out, HNC.out.1]; simp [clOf]
          · rw [HTF.out, HNF.out.1]; simp [flOf]
          · rw [HPC.out, HS1.out]; exact HO
          · rw [HTC.out, show clOf g (yb, (⟨ym, yf, yg, yc, true⟩ : Sv)) = [] from by simp [clOf], List.append_nil]; exact OC
          · rw [HTF.out, show flOf g (yb, (⟨ym, yf, yg, yc, true⟩ : Sv)) = [] from by simp [flOf], List.append_nil]; exact OF
        case measure => simp [intOf]; omega
      | false =>
        obtain ⟨nd, hnd⟩ : ∃ d, nOf g ym = d := ⟨_, rfl⟩
        have hga2 := HGA.out.get ym
        have LG := (HG.out.get okU ym hUy)
        have e1 : (g ym).getD kvU.zero = nd := hnd
        have e2 : (g ym).getD 0 = nd := hnd
        rw [e1] at LG
        rw [e2] at hga2
        have LG : (Instr.lookup 85 (.map (some N)) (.int .u32 ym) false).run Tryz.prog wr = .ok (.agg #[.int .u64 (hiW nd), .int .u64 (loW nd)]) wr := LG
        have CC := hid (fun U => mcompare_any yg nd U hAy hga2)
        have HND := hid hnd
        obtain ⟨cv, hcv⟩ : ∃ v, cmp3 yg nd = v := ⟨_, rfl⟩
        rw [hcv] at CC
        have HCV := hid hcv
        unfold mv at CC
        obtain ⟨gD, hgD⟩ : ∃ g, wr.heap.size = g := ⟨_, rfl⟩
        obtain ⟨W1, hW1⟩ : ∃ W, wr.alloc (.cells #[.int .u64 0, .int .u64 0] 33) = W := ⟨_, rfl⟩
        obtain ⟨W2, hW2⟩ : ∃ W, W1.setRow gD #[.int .u64 (hiW nd), .int .u64 (loW nd)] = W := ⟨_, rfl⟩
        have b1 : Below wr.heap.size wr W1 := by rw [← hW1]; exact ball _ _
        have ZD := hid (show W1.heap[gD]? = some (.cells #[.int .u64 0, .int .u64 0] 33 (0, 0)) from by rw [← hW1, ← hgD]; exact World.alloc_heap_new _ _)
        have RD := hid (show W2.heap[gD]? = some (.cells #[.int .u64 (hiW nd), .int .u64 (loW nd)] 33 (0, 0)) from by rw [← hW2]; exact setRow_heap _ _ _ _ 33 (0, 0) ZD.out)
        have B2 := hid (show Below wr.heap.size wr W2 from by rw [← hW2]; exact setRow_below b1 (Nat.le_of_eq hgD))
        have RY2 := hid (row_on RY.out B2.out)
        clear b1 hAy hUy e1 e2 hga2 hnd hcv
        go_upto_region 8 with (refine wpList_store_row (by rfl) 33 (.tmp 8) (.tmp 27) (by rfl) gD #[.int .u64 (hiW nd), .int .u64 (loW nd)] (by rfl) (by rfl) 33 _ ZD.out infoM2 (by rfl) (by simp [Value.oneCell']) ?_; rw [hW2])
        clear hgD hW1 hW2 ZD LG y0 y2 y3 y4 y5 a0
        have BRF := hid (Below.refl W2.heap.size W2)
        obtain ⟨V1, hV1⟩ : ∃ U, W2.drew = U := ⟨_, rfl⟩
        have bV1 := hid (show Below W2.heap.size W2 V1 from by rw [← hV1]; exact bdrew1 _)
        have DV1 := hid (btr BRF.out bV1.out)
        have r2 := hid (row_on RY2.out bV1.out)
        have r3 := hid (row_on RD.out bV1.out)
        refine wp_region_held_drew (S := (fun U => U.cell? ⟨yb, 2, none⟩ = some (.int .u64 (hiW yg)) ∧ U.cell? ⟨yb, 3, none⟩ = some (.int .u64 (loW yg)) ∧ U.cell? ⟨gD, 0, none⟩ = some (.int .u64 (hiW nd)) ∧ U.cell? ⟨gD, 1, none⟩ = some (.int .u64 (loW nd)))) (by kernel_rfl) ?_ (fun hHeld => ?_)
        · (try dsimp only); rw [hV1]; exact ⟨row_cell r2.out 2, row_cell r2.out 3, row_cell r3.out 0, row_cell r3.out 1⟩
        rw [hV1] at hHeld ⊢
        clear hV1
        refine' wpAnyH_take (i := 0) (oi := _) (v := _) rfl (by kernel_rfl) (by kernel_rfl) (by kernel_rfl) (fun _ _ _ h => h) (Or.inl ⟨by kernel_rfl, ?_⟩) (by assumption) ?_
        rotate_left
        · (intro w hSw; (try dsimp only at hSw); go_simp; try (with_reducible rfl))
        try simp only [List.getElem_toArray, List.getElem_cons_succ, List.getElem_cons_zero, Act.put, List.setIfInBounds_toArray, List.set_cons_zero, List.set_cons_succ]
        refine' wpAnyH_take (i := 1) (oi := _) (v := _) rfl (by kernel_rfl) (by kernel_rfl) (by kernel_rfl) (fun _ _ _ h => h) (Or.inl ⟨by kernel_rfl, ?_⟩) (by assumption) ?_
        rotate_left
        · (intro w hSw; (try dsimp only at hSw); go_simp; try (with_reducible rfl))
        try simp only [List.getElem_toArray, List.getElem_cons_succ, List.getElem_cons_zero, Act.put, List.setIfInBounds_toArray, List.set_cons_zero, List.set_cons_succ]
        refine' wpAnyH_take (i := 2) (oi := _) (v := _) rfl (by kernel_rfl) (by kernel_rfl) (by kernel_rfl) (fun _ _ _ h => h) (Or.inl ⟨by kernel_rfl, ?_⟩) (by assumption) ?_
        rotate_left
        · (intro w hSw; (try dsimp only at hSw); go_simp; try (with_reducible rfl))
        try simp only [List.getElem_toArray, List.getElem_cons_succ, List.getElem_cons_zero, Act.put, List.setIfInBounds_toArray, List.set_cons_zero, List.set_cons_succ]
        refine' wpAnyH_take (i := 3) (oi := _) (v := _) rfl (by kernel_rfl) (by kernel_rfl) (by kernel_rfl) (fun _ _ _ h => h) (Or.inl ⟨by kernel_rfl, ?_⟩) (by assumption) ?_
        rotate_left
        · (intro w hSw; (try dsimp only at hSw); go_simp; try (with_reducible rfl))
        try simp only [List.getElem_toArray, List.getElem_cons_succ, List.getElem_cons_zero, Act.put, List.setIfInBounds_toArray, List.set_cons_zero, List.set_cons_succ]
        refine' wpAnyH_take (i := 4) (oi := _) (v := _) rfl (by kernel_rfl) (by kernel_rfl) (by kernel_rfl) (fun _ _ _ h => h) (Or.inl ⟨by kernel_rfl, ?_⟩) (by assumption) ?_
        rotate_left
        · (intro w hSw; (try dsimp only at hSw); go_simp; try (with_reducible rfl))
        try simp only [List.getElem_toArray, List.getElem_cons_succ, List.getElem_cons_zero, Act.put, List.setIfInBounds_toArray, List.set_cons_zero, List.set_cons_succ]
        refine wpAnyH_ready (rs := [5]) (by kernel_rfl) (by simp) ?_
        refine (AllReadyH.cons (o := _) rfl (fun K hK => ?_) AllReadyH.nil)
        go_simp
        go_at_call 10
        with_reducible refine (CC.out V1).mono ?_
        rintro e X4 ⟨rfl, cX4⟩
        have bX4 := hid cX4
        clear cX4
        have DX4 := hid (btr DV1.out bX4.out)
        have r5 := hid (row_on r2.out bX4.out)
        have r6 := hid (row_on r3.out bX4.out)
        (try go_wp2_with fail)
        refine hK.out _ _ ?_ (fun hHeld => ?_)
        · (try dsimp only); exact ⟨row_cell r5.out 2, row_cell r5.out 3, row_cell r6.out 0, row_cell r6.out 1⟩
        clear hK K
        try simp only [List.getElem_toArray, List.getElem_cons_succ, List.getElem_cons_zero, Act.put, List.setIfInBounds_toArray, List.set_cons_zero, List.set_cons_succ]
        refine' wpAnyH_take (i := 6) (oi := _) (v := _) rfl (by kernel_rfl) (by kernel_rfl) (by kernel_rfl) (fun _ _ _ h => h) (Or.inl ⟨by kernel_rfl, ?_⟩) (by assumption) ?_
        rotate_left
        · (intro w hSw; (try dsimp only at hSw); go_simp; try (with_reducible rfl))
        try simp only [List.getElem_toArray, List.getElem_cons_succ, List.getElem_cons_zero, Act.put, List.setIfInBounds_toArray, List.set_cons_zero, List.set_cons_succ]
        refine' wpAnyH_take (i := 7) (oi := _) (v := _) rfl (by kernel_rfl) (by kernel_rfl) (by kernel_rfl) (fun _ _ _ h => h) (Or.inl ⟨by kernel_rfl, ?_⟩) (by assumption) ?_
        rotate_left
        · (intro w hSw; (try dsimp only at hSw); go_simp; try (with_reducible rfl))
        try simp only [List.getElem_toArray, List.getElem_cons_succ, List.getElem_cons_zero, Act.put, List.setIfInBounds_toArray, List.set_cons_zero, List.set_cons_succ]
        refine wpAnyH_done (by kernel_rfl) ?_ _
        have B3 := hid (btr B2.out DX4.out)
        have RY3 := hid r5.out
        have RD3 := hid r6.out
        obtain ⟨W3, h3⟩ : ∃ U, X4 = U := ⟨_, rfl⟩
        rw [h3] at B3 RY3 RD3 ⊢
        clear h3
        have HO3 := hid (HO.out.on B3.out)
        have HG3 := hid (HG.out.on B3.out)
        have OC3 := hid (own_on OC.out B3.out)
        have OF3 := hid (own_on OF.out B3.out)
        have KW3 := hid (KW.out.trans (Kp.of (fun _ => False) B3.out) (fun g _ e => e.elim))
        have y0 := row_cell RY3.out 0
        have y2 := row_cell RY3.out 2
        have y3 := row_cell RY3.out 3
        have y4 := row_cell RY3.out 4
        simp only [List.getElem?_toArray, List.getElem?_cons_succ, List.getElem?_cons_zero] at y0 y2 y3 y4
        have d0 := row_cell RD3.out 0
        have d1 := row_cell RD3.out 1
        simp only [List.getElem?_toArray, List.getElem?_cons_succ, List.getElem?_cons_zero] at d0 d1
        by_cases hc : nd ≤ yg
        · have v0 : decide (0 ≤ cv) = true := by have := HCV.out; unfold cmp3 at this; rw [decide_eq_true_iff]; split at this <;> (try split at this) <;> omega
          rw [v0]
          clear v0
          have f4 := row_frz RY3.out 4
          obtain ⟨X, hX⟩ : ∃ X, W3.setCell ⟨yb, 4, none⟩ (.bool false) = X := ⟨_, rfl⟩
          have kx := hid (show Kp (fun j => j = yb) W3 X from by rw [← hX]; exact Kp.set _ _ _ _)
          have RYX := hid (show X.heap[yb]? = some (.cells (srow ⟨ym, yf, yg, false, false⟩) 106 (0, 0)) from by rw [← hX]; exact set_row _ RY3.out (by rfl))
          have HPC := hid (show pc g ⟨ym, yf, yg, yc, false⟩ = ⟨ym, yf, yg, false, false⟩ from by unfold pc; rw [if_neg (fun h => by cases h)]; simp only [HND.out, if_pos hc])
          have HXX := hid hX
          clear hX
          have HOX := hid (HO3.out.sset HMEM.out (s := ⟨ym, yf, yg, false, false⟩) rfl kx.out RYX.out)
          have nyX : ∀ {r : Nat} {cs : Array Value} {t : TypeId}, W3.heap[r]? = some (.cells cs t (0, 0)) → t ≠ 106 → ¬ r = yb := fun e ht => row_ne e RY3.out ht
          have HGX := hid (HG3.out.kept kx.out (fun e => by obtain ⟨es, cl, e3⟩ := Mp.obj HG3.out; rw [e, RY3.out] at e3; cases e3))
          have OCX := hid (own_kp OC3.out kx.out (fun r cs e _ => nyX e (by decide)))
          have OFX := hid (own_kp OF3.out kx.out (fun r cs e _ => nyX e (by decide)))
          have KWX := hid (KW3.out.trans kx.out (fun g _ e => by rw [e]; exact HYB.out))
          clear nyX
          go_wp2
          rw [HXX.out]
          go_roundw
          case rel =>
            refine ⟨i + 1, qc, nc, dc, qf, nf, df, by omega, by go_num, rfl, rfl, hid ⟨?_, by have := HNC.out.2; omega⟩, hid ⟨?_, by have := HNF.out.2; omega⟩, ?_, HGX, ?_, ?_, KWX⟩
            · rw [HTC.out, HNC.out.1]; simp [clOf, HND.out, hc]
            · rw [HTF.out, HNF.out.1]; simp [flOf, HND.out, hc]
            · rw [← HNX.out, HPC.out]; exact HOX
            · rw [HTC.out, show clOf g (yb, (⟨ym, yf, yg, yc, false⟩ : Sv)) = [] from by simp [clOf, HND.out, hc], List.append_nil]; exact OCX
            · rw [HTF.out, show flOf g (yb, (⟨ym, yf, yg, yc, false⟩ : Sv)) = [] from by simp [flOf, HND.out, hc], List.append_nil]; exact OFX
          case measure => simp [intOf]; omega
        · have v0 : decide (0 ≤ cv) = false := by have := HCV.out; unfold cmp3 at this; rw [decide_eq_false_iff_not]; split at this <;> (try split at this) <;> omega
          rw [v0]
          clear v0
          have HNC2 := hid hc
          cases yc with
          | true =>
            have HPC := hid (show pc g ⟨ym, yf, yg, true, false⟩ = ⟨ym, yf, yg, true, false⟩ from by unfold pc; rw [if_neg (fun h => by cases h)]; simp only [HND.out, if_neg HNC2.out]; rfl)
            have HS1 := hid (show sset (cur g l i) ⟨ym, yf, yg, true, false⟩ = cur g l i from by
              unfold sset
              rw [List.map_congr_left (g := id) (fun z hz => ?_), List.map_id]
              by_cases c : z.2.m = ym
              · rw [if_pos c]
                have := up_one HO.out.up hz HMEM.out c
                rw [this]
                rfl
              · rw [if_neg c]
                rfl)
            obtain ⟨X, hX⟩ : ∃ X, W3.alloc (.cells #[pb yb] 104) = X := ⟨_, rfl⟩
            have BX := hid (show Below W3.heap.size W3 X from by rw [← hX]; exact ball _ _)
            have OFX := hid (own_on OF3.out BX.out)
            have RN := hid (show ∀ j u, ([pb yb] : List Value)[j]? = some u → X.cell? ((⟨W3.heap.size, 0, none⟩ : Addr).add j) = some u from fun j u hj => by
              rw [Addr.add_lit, Nat.zero_add, row_cell (show X.heap[W3.heap.size]? = some (.cells #[pb yb] 104 (0, 0)) from by rw [← hX]; exact World.alloc_heap_new _ _)]
              simpa using hj)
            have H1 := hid (show ∀ u ∈ ([pb yb] : List Value), u.oneCell' = true from fun u hu => by simp at hu; subst hu; rfl)
            have HXX := hid hX
            have HBX := hid (show b0 ≤ X.heap.size from by have h1 := BX.out.size; have h2 := KW3.out.size; rw [HB0.out] at h2; omega)
            clear hX hc
            go_wp2_with (rw [HXX.out]; at_builtin; refine wpList_append_lies X (by rfl) (.tmp 60) (.tmp 62) 97 (by rfl) b0 104 iS _ 1 8 Tryz.underlying97 IS.out.1 IS.out.2.1 IS.out.2.2.1 IS.out.2.2.2 rfl (by decide) _ nf (pbs ((l.take i).flatMap (flOf g))) (by rfl) OFX.out ⟨W3.heap.size, 0, none⟩ 1 1 [pb yb] (by rfl) (by rfl) RN.out H1.out (by decide) (by have := HNF.out.2; have := HSZ.out; unfold maxLen; omega) (by have := HNF.out.2; have := HSZ.out; omega) HBX.out _ rfl ?_; intro g9 cap9 w9 h1 h2 h3 h4; have O9 := hid h1; have G9 := hid h2; clear h1 h2 h3 h4)
            go_roundw
            case rel =>
              have k9 : Kp (fun j => b0 ≤ j) W3 w9 := (Kp.of (fun j => b0 ≤ j) BX.out).trans (⟨G9.out.os, G9.out.tape, G9.out.output, G9.out.size, fun j hj hne => G9.out.block j hj (fun e => hne (own_lo OFX.out e.symm).1)⟩ : Kp (fun j => b0 ≤ j) X w9) (fun g _ e => e)
              refine ⟨i + 1, qc, nc, dc, some ⟨g9, 0, none⟩, nf + 1, cap9, by omega, by go_num, rfl, rfl, hid ⟨?_, by have := HNC.out.2; omega⟩, hid ⟨?_, by have := HNF.out.2; omega⟩, ?_, hid (HG3.out.kept k9 (by have := HNb.out; omega)), ?_, ?_, hid (KW3.out.trans k9 (fun j hj e => by have := HB0.out; omega))⟩
              · rw [HTC.out, HNC.out.1]; simp [clOf]
              · rw [HTF.out, List.length_append, ← HNF.out.1]; simp [flOf, HND.out, HNC2.out]
              · rw [← HNX.out, HPC.out, HS1.out]; exact hid (HO3.out.kept k9 (fun j hj e => by rw [cur_bks] at hj; have := HOB.out j hj; omega))
              · rw [HTC.out, show clOf g (yb, (⟨ym, yf, yg, true, false⟩ : Sv)) = [] from by simp [clOf], List.append_nil]
                have oc := own_on OC3.out BX.out
                exact hid (own_same oc (fun j hj => G9.out.block j (own_lo oc hj).2 (fun e => by
                  obtain ⟨c1, e1⟩ := own_ty oc hj
                  obtain ⟨c2, e2⟩ := own_ty OFX.out e.symm
                  rw [e1] at e2
                  injection e2 with e2
                  injection e2 with _ e2
                  exact absurd e2 (by decide))))
              · rw [HTF.out, show flOf g (yb, (⟨ym, yf, yg, true, false⟩ : Sv)) = [yb] from by simp [flOf, HND.out, HNC2.out]]
                unfold pbs
                rw [List.map_append]
                exact O9
            case measure => simp [intOf]; omega
          | false =>
            have f4 := row_frz RY3.out 4
            obtain ⟨X, hX⟩ : ∃ X, W3.setCell ⟨yb, 4, none⟩ (.bool true) = X := ⟨_, rfl⟩
            have kx := hid (show Kp (fun j => j = yb) W3 X from by rw [← hX]; exact Kp.set _ _ _ _)
            have RYX := hid (show X.heap[yb]? = some (.cells (srow ⟨ym, yf, yg, true, false⟩) 106 (0, 0)) from by rw [← hX]; exact set_row _ RY3.out (by rfl))
            have RDX := hid (kx.out.row RD3.out (row_ne RD3.out RY3.out (by decide)))
            have HPC := hid (show pc g ⟨ym, yf, yg, false, false⟩ = ⟨ym, yf, yg, true, false⟩ from by unfold pc; rw [if_neg (fun h => by cases h)]; simp only [HND.out, if_neg HNC2.out]; rfl)
            have HXX := hid hX
            clear hX hc
            have HOX := hid (HO3.out.sset HMEM.out (s := ⟨ym, yf, yg, true, false⟩) rfl kx.out RYX.out)
            have nyX : ∀ {r : Nat} {cs : Array Value} {t : TypeId}, W3.heap[r]? = some (.cells cs t (0, 0)) → t ≠ 106 → ¬ r = yb := fun e ht => row_ne e RY3.out ht
            have HGX := hid (HG3.out.kept kx.out (fun e => by obtain ⟨es, cl, e3⟩ := Mp.obj HG3.out; rw [e, RY3.out] at e3; cases e3))
            have OCX := hid (own_kp OC3.out kx.out (fun r cs e _ => nyX e (by decide)))
            have OFX := hid (own_kp OF3.out kx.out (fun r cs e _ => nyX e (by decide)))
            have KWX := hid (KW3.out.trans kx.out (fun g _ e => by rw [e]; exact HYB.out))
            clear nyX
            go_upto_region 7 with fail
            rw [HXX.out]
            clear y0 y2 y3 y4 d0 d1 f4
            have BRX := hid (Below.refl X.heap.size X)
            obtain ⟨V7, hV7⟩ : ∃ U, X.drew = U := ⟨_, rfl⟩
            have bV7 := hid (show Below X.heap.size X V7 from by rw [← hV7]; exact bdrew1 _)
            have DV7 := hid (btr BRX.out bV7.out)
            have r8 := hid (row_on RYX.out bV7.out)
            have r9 := hid (row_on RDX.out bV7.out)
            refine wp_region_held_drew (S := (fun U => U.cell? ⟨yb, 0, none⟩ = some (.int .u32 ym) ∧ U.cell? ⟨yb, 2, none⟩ = some (.int .u64 (hiW yg)) ∧ U.cell? ⟨yb, 3, none⟩ = some (.int .u64 (loW yg)) ∧ U.cell? ⟨gD, 0, none⟩ = some (.int .u64 (hiW nd)) ∧ U.cell? ⟨gD, 1, none⟩ = some (.int .u64 (loW nd)))) (by kernel_rfl) ?_ (fun hHeld => ?_)
            · (try dsimp only); rw [hV7]; exact ⟨row_cell r8.out 0, row_cell r8.out 2, row_cell r8.out 3, row_cell r9.out 0, row_cell r9.out 1⟩
            rw [hV7] at hHeld ⊢
            clear hV7
            refine' wpAnyH_take (i := 0) (oi := _) (v := _) rfl (by kernel_rfl) (by kernel_rfl) (by kernel_rfl) (fun _ _ _ h => h) (Or.inl ⟨by kernel_rfl, ?_⟩) (by assumption) ?_
            rotate_left
            · (intro w hSw; (try dsimp only at hSw); go_simp; try (with_reducible rfl))
            try simp only [List.getElem_toArray, List.getElem_cons_succ, List.getElem_cons_zero, Act.put, List.setIfInBounds_toArray, List.set_cons_zero, List.set_cons_succ]
            refine' wpAnyH_take (i := 1) (oi := _) (v := _) rfl (by kernel_rfl) (by kernel_rfl) (by kernel_rfl) (fun _ _ _ h => h) (Or.inl ⟨by kernel_rfl, ?_⟩) (by assumption) ?_
            rotate_left
            · (intro w hSw; (try dsimp only at hSw); go_simp; try (with_reducible rfl))
            try simp only [List.getElem_toArray, List.getElem_cons_succ, List.getElem_cons_zero, Act.put, List.setIfInBounds_toArray, List.set_cons_zero, List.set_cons_succ]
            refine' wpAnyH_take (i := 2) (oi := _) (v := _) rfl (by kernel_rfl) (by kernel_rfl) (by kernel_rfl) (fun _ _ _ h => h) (Or.inl ⟨by kernel_rfl, ?_⟩) (by assumption) ?_
            rotate_left
            · (intro w hSw; (try dsimp only at hSw); go_simp; try (with_reducible rfl))
            try simp only [List.getElem_toArray, List.getElem_cons_succ, List.getElem_cons_zero, Act.put, List.setIfInBounds_toArray, List.set_cons_zero, List.set_cons_succ]
            refine' wpAnyH_take (i := 3) (oi := _) (v := _) rfl (by kernel_rfl) (by kernel_rfl) (by kernel_rfl) (fun _ _ _ h => h) (Or.inl ⟨by kernel_rfl, ?_⟩) (by assumption) ?_
            rotate_left
            · (intro w hSw; (try dsimp only at hSw); go_simp; try (with_reducible rfl))
            try simp only [List.getElem_toArray, List.getElem_cons_succ, List.getElem_cons_zero, Act.put, List.setIfInBounds_toArray, List.set_cons_zero, List.set_cons_succ]
            refine' wpAnyH_take (i := 4) (oi := _) (v := _) rfl (by kernel_rfl) (by kernel_rfl) (by kernel_rfl) (fun _ _ _ h => h) (Or.inl ⟨by kernel_rfl, ?_⟩) (by assumption) ?_
            rotate_left
            · (intro w hSw; (try dsimp only at hSw); go_simp; try (with_reducible rfl))
            try simp only [List.getElem_toArray, List.getElem_cons_succ, List.getElem_cons_zero, Act.put, List.setIfInBounds_toArray, List.set_cons_zero, List.set_cons_succ]
            refine' wpAnyH_take (i := 5) (oi := _) (v := _) rfl (by kernel_rfl) (by kernel_rfl) (by kernel_rfl) (fun _ _ _ h => h) (Or.inl ⟨by kernel_rfl, ?_⟩) (by assumption) ?_
            rotate_left
            · (intro w hSw; (try dsimp only at hSw); go_simp; try (with_reducible rfl))
            try simp only [List.getElem_toArray, List.getElem_cons_succ, List.getElem_cons_zero, Act.put, List.setIfInBounds_toArray, List.set_cons_zero, List.set_cons_succ]
            refine' wpAnyH_take (i := 6) (oi := _) (v := _) rfl (by kernel_rfl) (by kernel_rfl) (by kernel_rfl) (fun _ _ _ h => h) (Or.inl ⟨by kernel_rfl, ?_⟩) (by assumption) ?_
            rotate_left
            · (intro w hSw; (try dsimp only at hSw); go_simp; try (with_reducible rfl))
            try simp only [List.getElem_toArray, List.getElem_cons_succ, List.getElem_cons_zero, Act.put, List.setIfInBounds_toArray, List.set_cons_zero, List.set_cons_succ]
            refine' wpAnyH_take (i := 7) (oi := _) (v := _) rfl (by kernel_rfl) (by kernel_rfl) (by kernel_rfl) (fun _ _ _ h => h) (Or.inl ⟨by kernel_rfl, ?_⟩) (by assumption) ?_
            rotate_left
            · (intro w hSw; (try dsimp only at hSw); go_simp; try (with_reducible rfl))
            try simp only [List.getElem_toArray, List.getElem_cons_succ, List.getElem_cons_zero, Act.put, List.setIfInBounds_toArray, List.set_cons_zero, List.set_cons_succ]
            refine' wpAnyH_take (i := 8) (oi := _) (v := _) rfl (by kernel_rfl) (by kernel_rfl) (by kernel_rfl) (fun _ _ _ h => h) (Or.inl ⟨by kernel_rfl, ?_⟩) (by assumption) ?_
            rotate_left
            · (intro w hSw; (try dsimp only at hSw); go_simp; try (with_reducible rfl))
            try simp only [List.getElem_toArray, List.getElem_cons_succ, List.getElem_cons_zero, Act.put, List.setIfInBounds_toArray, List.set_cons_zero, List.set_cons_succ]
            refine' wpAnyH_take (i := 9) (oi := _) (v := _) rfl (by kernel_rfl) (by kernel_rfl) (by kernel_rfl) (fun _ _ _ h => h) (Or.inl ⟨by kernel_rfl, ?_⟩) (by assumption) ?_
            rotate_left
            · (intro w hSw; (try dsimp only at hSw); go_simp; try (with_reducible rfl))
            try simp only [List.getElem_toArray, List.getElem_cons_succ, List.getElem_cons_zero, Act.put, List.setIfInBounds_toArray, List.set_cons_zero, List.set_cons_succ]
            refine' wpAnyH_take (i := 10) (oi := _) (v := _) rfl (by kernel_rfl) (by kernel_rfl) (by kernel_rfl) (fun _ _ _ h => h) (Or.inl ⟨by kernel_rfl, ?_⟩) (by assumption) ?_
            rotate_left
            · (intro w hSw; (try dsimp only at hSw); go_simp; try (with_reducible rfl))
            try simp only [List.getElem_toArray, List.getElem_cons_succ, List.getElem_cons_zero, Act.put, List.setIfInBounds_toArray, List.set_cons_zero, List.set_cons_succ]
            refine wpAnyH_ready (rs := [11]) (by kernel_rfl) (by simp) ?_
            refine (AllReadyH.cons (o := _) rfl (fun K hK => ?_) AllReadyH.nil)
            go_simp
            obtain ⟨X10, hX10⟩ : ∃ X, V7.alloc (.cells #[.int .u32 ym, .int .u64 (hiW nd), .int .u64 (loW nd), .int .u64 (hiW yg), .int .u64 (loW yg)] 68) = X := ⟨_, rfl⟩
            have bX10 := hid (show Below V7.heap.size V7 X10 from by rw [← hX10]; exact ball _ _)
            have zX10 : X10.heap[V7.heap.size]? = some (.cells #[.int .u32 ym, .int .u64 (hiW nd), .int .u64 (loW nd), .int .u64 (hiW yg), .int .u64 (loW yg)] 68 (0, 0)) := by rw [← hX10]; exact World.alloc_heap_new _ _
            have DX10 := hid (btr DV7.out bX10.out)
            have r12 := hid (row_on r8.out bX10.out)
            have r13 := hid (row_on r9.out bX10.out)
            obtain ⟨g11, hg11⟩ : ∃ g, V7.heap.size = g := ⟨_, rfl⟩
            have ne14 := hid (show yb ≠ g11 from by have := row_lt r8.out; omega)
            have ne15 := hid (show gD ≠ g11 from by have := row_lt r9.out; omega)
            have yg11 := hid (Nat.le_trans DV7.out.size (Nat.le_refl _))
            rw [hg11] at zX10 yg11
            have ZX10 := hid zX10
            rw [hX10, hg11]
            clear hX10 hg11 zX10
            refine hK.out _ _ ?_ (fun hHeld => ?_)
            · (try dsimp only); exact ⟨row_cell r12.out 0, row_cell r12.out 2, row_cell r12.out 3, row_cell r13.out 0, row_cell r13.out 1⟩
            clear hK K
            try simp only [List.getElem_toArray, List.getElem_cons_succ, List.getElem_cons_zero, Act.put, List.setIfInBounds_toArray, List.set_cons_zero, List.set_cons_succ]
            refine wpAnyH_ready (rs := [12]) (by kernel_rfl) (by simp) ?_
            refine (AllReadyH.cons (o := _) rfl (fun K hK => ?_) AllReadyH.nil)
            have OCa := hid (own_on OCX.out DX10.out)
            refine step_append_lies X10 (by rfl) (.tmp 31) (.tmp 42) 63 (by rfl) b0 68 i5 _ 5 40 Tryz.underlying63 I5.out.1 I5.out.2.1 I5.out.2.2.1 I5.out.2.2.2 rfl (by decide) _ nc (clv ((l.take i).flatMap (clOf g))) (by rfl) OCa.out ⟨g11, 0, none⟩ 1 1 [.int .u32 ym, .int .u64 (hiW nd), .int .u64 (loW nd), .int .u64 (hiW yg), .int .u64 (loW yg)] (by rfl) (by rfl) (fun j u hj => by rw [Addr.add_lit, Nat.zero_add, row_cell ZX10.out]; simpa using hj) (by simp [Value.oneCell']) (by decide) (by have := HNC.out.2; have := HSZ.out; unfold maxLen; omega) (by have := HNC.out.2; have := HSZ.out; omega) (by have h1 := DX10.out.size; have h2 := KWX.out.size; rw [HB0.out] at h2; omega) _ rfl (fun g9 cap9 w9 h1 h2 h3 h4 => ?_)
            have O9 := hid h1
            have G9 := hid h2
            clear h1 h2 h3 h4
            have k9 := hid (show Kp (fun j => b0 ≤ j) X w9 from (Kp.of (fun j => b0 ≤ j) DX10.out).trans (⟨G9.out.os, G9.out.tape, G9.out.output, G9.out.size, fun j hj hne => G9.out.block j hj (fun e => hne (own_lo OCa.out e.symm).1)⟩ : Kp (fun j => b0 ≤ j) X10 w9) (fun g _ e => e))
            have RY9 := hid (k9.out.row RYX.out (fun e => by have := HOB.out yb (.inr (.inr (.inl HYB.out))); omega))
            have RD9 := hid (show w9.heap[gD]? = some (.cells #[.int .u64 (hiW nd), .int .u64 (loW nd)] 33 (0, 0)) from (G9.out.block gD (row_lt r13.out) (fun e => by
              obtain ⟨c1, e1⟩ := own_ty OCa.out e.symm
              rw [r13.out] at e1
              injection e1 with e1
              injection e1 with _ e1
              exact absurd e1 (by decide))).trans r13.out)
            refine hK.out _ _ ?_ (fun hHeld => ?_)
            · (try dsimp only); exact ⟨row_cell RY9.out 0, row_cell RY9.out 2, row_cell RY9.out 3, row_cell RD9.out 0, row_cell RD9.out 1⟩
            clear hK K
            try simp only [List.getElem_toArray, List.getElem_cons_succ, List.getElem_cons_zero, Act.put, List.setIfInBounds_toArray, List.set_cons_zero, List.set_cons_succ]
            refine' wpAnyH_take (i := 13) (oi := _) (v := _) rfl (by kernel_rfl) (by kernel_rfl) (by kernel_rfl) (fun _ _ _ h => h) (Or.inl ⟨by kernel_rfl, ?_⟩) (by assumption) ?_
            rotate_left
            · (intro w hSw; (try dsimp only at hSw); go_simp; try (with_reducible rfl))
            try simp only [List.getElem_toArray, List.getElem_cons_succ, List.getElem_cons_zero, Act.put, List.setIfInBounds_toArray, List.set_cons_zero, List.set_cons_succ]
            refine wpAnyH_done (by kernel_rfl) ?_ _
            (try go_wp2)
            have DA9 := hid DX10.out
            go_roundw
            case rel =>
              refine ⟨i + 1, some ⟨g9, 0, none⟩, nc + 1, cap9, qf, nf, df, by omega, by go_num, rfl, rfl, hid ⟨?_, by have := HNC.out.2; omega⟩, hid ⟨?_, by have := HNF.out.2; omega⟩, ?_, hid (HGX.out.kept k9.out (by have := HNb.out; omega)), ?_, ?_, hid (KWX.out.trans k9.out (fun j hj e => by have := HB0.out; omega))⟩
              · rw [HTC.out, List.length_append, ← HNC.out.1]; simp [clOf, HND.out, HNC2.out]
              · rw [HTF.out, HNF.out.1]; simp [flOf]
              · rw [← HNX.out, HPC.out]; exact hid (HOX.out.kept k9.out (fun j hj e => by rw [sset_bks, cur_bks] at hj; have := HOB.out j hj; omega))
              · rw [HTC.out, show clOf g (yb, (⟨ym, yf, yg, false, false⟩ : Sv)) = [⟨ym, nd, yg⟩] from by simp [clOf, HND.out, HNC2.out]]
                unfold clv
                rw [List.flatMap_append]
                exact O9
              · rw [HTF.out, show flOf g (yb, (⟨ym, yf, yg, false, false⟩ : Sv)) = [] from by simp [flOf], List.append_nil]
                have of := own_on OFX.out DA9.out
                exact hid (own_same of (fun j hj => G9.out.block j (own_lo of hj).2 (fun e => by
                  obtain ⟨c1, e1⟩ := own_ty of hj
                  obtain ⟨c2, e2⟩ := own_ty OCa.out e.symm
                  rw [e1] at e2
                  injection e2 with e2
                  injection e2 with _ e2
                  exact absurd e2 (by decide))))
            case measure => simp [intOf]; omega
    · obtain rfl : i = k := by omega
      have hin : decide (i < i) = false := by simp
      have HT := hid (show l.take i = l from by rw [← HK.out, List.take_length])
      rw [HT.out] at HNC HNF OC OF
      have HCA := hid (show cur g l i = pcl g l from by rw [← HK.out, cur_all])
      rw [HCA.out] at HO
      go_wp2
      go_ret2
      exact ⟨qc, nc, dc, qf, nf, df, rfl, HNC.out.1, HNF.out.1, HO.out, OC.out, OF.out, KW.out⟩
end Go.Proofs.YtlhbgaiiehljpaaGreat.Ac
namespace Go.Proofs.YtlhbgaiiehljpaaGreat.Ac
open Go.RowKit Go.Deep Go.Maps MonM Go.Proofs.YtlhbgaiiehljpaaGreat
set_option linter.unusedVariables false
set_option linter.unusedSimpArgs false
set_option maxHeartbeats 8000000
set_option maxRecDepth 100000
attribute [local go_sem ↓] Go.wp_at_zero Go.wp_at_succ
def outK (l : List (Nat × Sv)) (k : Int × Int) : Bool := (gm l k.1).ou
def hcs (l : List (Int × Int)) : List Value := l.flatMap fun k => [.int .u32 k.1, .int .u32 k.2]
def fT (G : List (Int × Int)) (f : HoP) : HoP := G.foldl (fun f k => dlt (upd f (0, k.2) ((f k).getD p0)) k) f
theorem infoH8 : (Tryz.prog.info? 79).map (fun i => (i.zero, i.size, i.bytes)) = some (some (.agg #[.int .u32 0, .int .u32 0]), 2, 8) := by kernel_rfl
theorem takeOver_any {H : Nat} {o : Int} {p : Option Addr} {c : Nat} {l : List (Nat × Sv)} {b : Nat} {n : Nat} {f : HoP} (w : World) (h : Ho w H o p c l (some b) n f) (hn : n < 1000000000) (G : List (Int × Int)) (hG : ∀ ks lf, Sd f lf ks → (∀ k, kvP.ok k → lf k = false) → ks.filter (outK l) = G) (hm : ∀ k x, f k = some x → ∃ y ∈ l, y.2.m = k.1)
    (hG2 : G = [] ∨ ∃ m i q v, G = [(m, i)] ∧ f (m, i) = some ⟨q, v⟩ ∧ f (0, i) = none ∧ q ≠ 0 ∧ Amt v ∧ (-1099511627776 ≤ q ∧ q ≤ 1099511627776) ∧ m ≠ 0 ∧ U32 m ∧ U32 i) :
    Calls Tryz.prog 72 #[pb H] w fun e w' => e = .returned (.tuple #[]) ∧ Ho w' H o p c l (some b) (n + 1) (fT G f) ∧ Kp (fun j => j = b) w w' := by
  have k2 := row_cell (hid h.row).out 2
  simp only [List.getElem?_toArray, List.getElem?_cons_succ, List.getElem?_cons_zero] at k2
  obtain ⟨V, cnt, hrun, hmr, hcn, hbv⟩ := Mp.range h.mp okP
  have hrun : (Instr.range 98 (.map (some b))).run Tryz.prog w = .ok (.pointer (some ⟨w.heap.size, 0, none⟩)) V := hrun
  obtain ⟨r, hr⟩ : ∃ r, w.heap.size = r := ⟨_, rfl⟩
  rw [hr] at hrun hmr
  have HMR := hid hmr
  have HRR := hid hr
  have HNN := hid hn
  have HBV := hid hbv
  have HCN := hid hcn
  have HH := hid h
  have HM := hid hm
  have HG := hid hG
  have HG2 := hid hG2
  obtain ⟨iH, hiH, hzH, hsH, hyH⟩ := info_parts infoH8
  have IH := hid (And.intro hiH (And.intro hzH (And.intro hsH hyH)))
  clear hmr hbv hr hcn h hn hm hG hG2 hiH hzH hsH hyH
  go_enter Tryz.func72, Tryz.ntmps72
  go_upto_region 2 with fail
  try go_frame
  go_loopg [2] (cnt) (fun kk gv wr => ∃ (lf : Int × Int → Bool) (ks : List (Int × Int)) (q : Option Addr) (d m0 : Nat), gv = .slice q m0 d ∧ Hid (m0 = (ks.filter (outK l)).length ∧ m0 + kk ≤ n) ∧ Hid (Sd f lf ks) ∧ Hid (Mr kvP wr b r n f lf kk) ∧ Hid (wr.ownsRow (r + 1) 79 2 (.slice q m0 d) m0 (hcs (ks.filter (outK l)))) ∧ Hid (Below w.heap.size w wr))
  case atStart => exact ⟨_, [], none, 0, 0, rfl, ⟨rfl, by have := HCN.out; omega⟩, ⟨List.nodup_nil, fun k h => by (cases h), fun k _ => by simp⟩, HMR, own_nil _ _ _ _, HBV⟩
  case round =>
    obtain ⟨lf, ks, gq, gd, m0, rfl, HM0, HSD, HR, OG, HB⟩ := hrel
    clear hrun k2
    rcases HR.out.nextv okP kvallP with ⟨h0, hdone⟩ | ⟨x, pvx, wn, cn, hok, hlf, hfx, hnext, hentry, hmr, hlt, hko⟩
    · have HGE := hid (HG.out ks lf HSD.out h0)
      have HO := hid (HH.out.on HB.out)
      clear h0
      rw [HGE.out] at HM0 OG
      rcases HG2.out with e | ⟨m, i, q, v, e, hf, hf0, hq, hv, hqb, hm0, hum, hui⟩
      · have HE := hid e
        rw [e] at HM0 OG
        have hm0 : m0 = 0 := HM0.out.1
        subst hm0
        go_upto_region 7 with fail
        go_upto_region 8 with fail
        go_loopw [35] (fun iv wr2 => iv = .int .i64 0 ∧ wr2 = wr) (fun _ _ => 0)
        case atStart => exact ⟨rfl, rfl⟩
        case round =>
          obtain ⟨rfl, hw⟩ := hrel
          subst hw
          go_wp2
          go_end0
          exact ⟨rfl, by rw [HE.out]; exact ⟨HO.out.row, HO.out.me, HO.out.nd, HO.out.up, HO.out.sz, Mp.mono HO.out.mp (Nat.le_succ _)⟩, Kp.of _ HB.out⟩
      · have HE := hid e
        rw [e] at HM0 OG
        have hm1 : m0 = 1 := HM0.out.1
        subst hm1
        obtain ⟨gg, u0, rfl, -, -⟩ : ∃ g u, gq = some ⟨g, 0, none⟩ ∧ True ∧ True := by
          obtain ⟨h1, ⟨e1, e2⟩ | ⟨g, c', cur, e', r1, r2, r3, r4, r5, r6⟩⟩ := OG.out
          · omega
          · exact ⟨g, undef, (Value.slice.inj e').1, trivial, trivial⟩
        have RGG := hid (show ∃ cur, wr.heap[gg]? = some (.cells cur 79 (0, 0)) ∧ cur[0]? = some (.int .u32 m) ∧ cur[1]? = some (.int .u32 i) from by
          obtain ⟨h1, ⟨e1, e2⟩ | ⟨g, c', cur, e', r1, r2, r3, r4, r5, r6⟩⟩ := OG.out
          · omega
          · have e3 := (Value.slice.inj e').1
            injection e3 with e3
            injection e3 with e3
            subst e3
            refine ⟨cur, r2, ?_, ?_⟩
            · have := congrArg (fun z => z[0]?) r6
              simp only [List.getElem?_take, show 0 < 1 * 2 by omega, if_true, Array.getElem?_toList] at this
              rw [this]; rfl
            · have := congrArg (fun z => z[1]?) r6
              simp only [List.getElem?_take, show 1 < 1 * 2 by omega, if_true, Array.getElem?_toList] at this
              rw [this]; rfl)
        have hcap := (own_capn OG.out).1
        have HFT := hid (show fT G f = dlt (upd f (0, i) ⟨q, v⟩) (m, i) from by rw [e]; unfold fT; simp only [List.foldl_cons, List.foldl_nil, hf, Option.getD_some])
        have HF := hid hf
        have HF0 := hid hf0
        have HQ0 := hid hq
        have HUM := hid hum
        have HUI := hid hui
        have HM0N := hid hm0
        have CA := hid (show ∀ U, Calls Tryz.prog 36 #[.agg #[.int .i64 0, .int .u64 0, .int .u64 0], .agg #[.int .i64 q, .int .u64 (hiW v), .int .u64 (loW v)]] U fun e w' => e = .returned (.agg #[.int .i64 q, .int .u64 (hiW v), .int .u64 (loW v)]) ∧ Below U.heap.size U w' from fun U => by
          have h1 := and_any p0 ⟨q, v⟩ U (show Amt 0 from ⟨by decide, by decide⟩) hv (by show -4611686018427387904 ≤ 0 + q; omega) (by show 0 + q ≤ 4611686018427387904; omega)
          simp only [pval, p0, words_zero.1, words_zero.2, Int.zero_add, madd_zero v hv] at h1
          exact h1)
        clear e hf hf0 hq hv hqb hm0 hum hui
        go_upto_region 7 with fail
        go_upto_region 8 with fail
        go_loopw [35] (fun iv wr2 => (iv = .int .i64 0 ∧ wr2 = wr) ∨ (iv = .int .i64 1 ∧ Hid (Ho wr2 H o p c l (some b) (n + 1) (fT G f)) ∧ Hid (Kp (fun j => j = b) w wr2))) (fun iv _ => 1 - (intOf iv).toNat)
        case atStart => exact .inl ⟨rfl, rfl⟩
        case round =>
          rcases hrel with ⟨rfl, hw⟩ | ⟨rfl, HO2, HK2⟩
          · subst hw
            obtain ⟨cur, rg, rg0, rg1⟩ := RGG.out
            have c0 := (row_cell rg 0).trans rg0
            have c1 := (row_cell rg 1).trans rg1
            obtain ⟨gA, hgA⟩ : ∃ g, wr.heap.size = g := ⟨_, rfl⟩
            obtain ⟨Wx, hWx⟩ : ∃ W, wr.alloc (.cells #[.int .u32 0, .int .u32 0] 79) = W := ⟨_, rfl⟩
            obtain ⟨Wy, hWy⟩ : ∃ W, Wx.setRow gA #[.int .u32 m, .int .u32 i] = W := ⟨_, rfl⟩
            obtain ⟨gB, hgB⟩ : ∃ g, Wy.heap.size = g := ⟨_, rfl⟩
            obtain ⟨Wz, hWz⟩ : ∃ W, Wy.alloc (.cells #[.int .u32 0, .int .u32 0] 79) = W := ⟨_, rfl⟩
            obtain ⟨Wu, hWu⟩ : ∃ W, Wz.setRow gB #[.int .u32 0, .int .u32 i] = W := ⟨_, rfl⟩
            have bx : Below wr.heap.size wr Wx := by rw [← hWx]; exact ball _ _
            have ZA := hid (show Wx.heap[gA]? = some (.cells #[.int .u32 0, .int .u32 0] 79 (0, 0)) from by rw [← hWx, ← hgA]; exact World.alloc_heap_new _ _)
            have rA : Wy.heap[gA]? = some (.cells #[.int .u32 m, .int .u32 i] 79 (0, 0)) := by rw [← hWy]; exact setRow_heap _ _ _ _ 79 (0, 0) ZA.out
            have RAy := hid rA
            have by1 : Below wr.heap.size wr Wy := by rw [← hWy]; exact setRow_below bx (Nat.le_of_eq hgA)
            have bz : Below Wy.heap.size Wy Wz := by rw [← hWz]; exact ball _ _
            have ZB := hid (show Wz.heap[gB]? = some (.cells #[.int .u32 0, .int .u32 0] 79 (0, 0)) from by rw [← hWz, ← hgB]; exact World.alloc_heap_new _ _)
            have RB := hid (show Wu.heap[gB]? = some (.cells #[.int .u32 0, .int .u32 i] 79 (0, 0)) from by rw [← hWu]; exact setRow_heap _ _ _ _ 79 (0, 0) ZB.out)
            have bu : Below Wy.heap.size Wy Wu := by rw [← hWu]; exact setRow_below bz (Nat.le_of_eq hgB)
            have RA := hid (row_on rA bu)
            have BU := hid (btr by1 bu)
            clear bx rA by1 bz bu
            go_upto_region 10 with (refine wpList_store_row (by rfl) 79 (.tmp 6) (.tmp 38) (by rfl) gA #[.int .u32 m, .int .u32 i] (by rfl) (by rfl) 79 _ ZA.out infoH2 (by rfl) (by simp [Value.oneCell']) ?_; rw [hWy])
            have a1 := row_cell RAy.out 1
            simp only [List.getElem?_toArray, List.getElem?_cons_succ, List.getElem?_cons_zero] at a1
            go_upto_region 11 with (refine wpList_store_row (by rfl) 79 (.tmp 7) (.tmp 41) (by rfl) gB #[.int .u32 0, .int .u32 i] (by rfl) (by rfl) 79 _ ZB.out infoH2 (by rfl) (by simp [Value.oneCell']) ?_; rw [hWu])
            clear hgA hWx hWy hgB hWz hWu ZA ZB c0 c1 a1 rg rg0 rg1
            have HOu := hid (HO.out.on BU.out)
            obtain ⟨k, hk⟩ : ∃ k, l.length = k := ⟨_, rfl⟩
            have RH := hid (show Wu.heap[H]? = some (.cells #[.int .u64 o, .slice p k c, .map (some b)] 100 (0, 0)) from by rw [← hk]; exact HOu.out.row)
            have HKL := hid hk
            clear hk
            have LT := hid (show ∀ U, Mp kvP U b n f → (Instr.lookup 98 (.map (some b)) (.agg #[.int .u32 0, .int .u32 i]) false).run Tryz.prog U = .ok (.agg #[.int .i64 0, .int .u64 0, .int .u64 0]) U from fun U hU => by
              have h1 := hU.get okP (0, i) ⟨u32_mk (by omega) (by omega), HUI.out⟩
              rw [HF0.out] at h1
              exact h1)
            have LF := hid (show ∀ U, Mp kvP U b n f → (Instr.lookup 98 (.map (some b)) (.agg #[.int .u32 m, .int .u32 i]) false).run Tryz.prog U = .ok (.agg #[.int .i64 q, .int .u64 (hiW v), .int .u64 (loW v)]) U from fun U hU => by
              have h1 := hU.get okP (m, i) ⟨HUM.out, HUI.out⟩
              rw [HF.out] at h1
              exact h1)
            have MPu := hid (show Mp kvP Wu b n f from HOu.out.mp)
            have BRF := hid (Below.refl Wu.heap.size Wu)
            refine reg_cut (X := Unit) (fun a x => ((((((((((((((((a.put (some 42) (pb H)).put (some 43) (.agg #[.int .u32 0, .int .u32 i])).put (some 44) (pb H)).put (some 45) (.pointer (some ⟨H, 0, none⟩))).put (some 46) (.pointer (some ⟨H, 2, none⟩))).put (some 47) (.map (some b))).put (some 48) (.agg #[.int .u32 0, .int .u32 i])).put (some 49) (.agg #[.int .i64 0, .int .u64 0, .int .u64 0])).put (some 50) (pb H)).put (some 51) (.pointer (some ⟨H, 0, none⟩))).put (some 52) (.pointer (some ⟨H, 2, none⟩))).put (some 53) (.map (some b))).put (some 54) (.agg #[.int .u32 m, .int .u32 i])).put (some 55) (.agg #[.int .i64 q, .int .u64 (hiW v), .int .u64 (loW v)])).put (some 56) (.agg #[.int .i64 q, .int .u64 (hiW v), .int .u64 (loW v)])).put (some 57) (.tuple #[]))) (fun x V => Hid (V.heap[gA]? = some (.cells #[.int .u32 m, .int .u32 i] 79 (0, 0))) ∧ Hid (Kp (fun j => j = b) Wu V) ∧ Hid (Mp kvP V b (n + 1) (upd f (0, i) ⟨q, v⟩))) ?_ ?_
            · obtain ⟨V1, hV1⟩ : ∃ U, Wu.drew = U := ⟨_, rfl⟩
              have bV1 := hid (show Below Wu.heap.size Wu V1 from by rw [← hV1]; exact bdrew1 _)
              have DV1 := hid (btr BRF.out bV1.out)
              have r2 := hid (row_on RH.out bV1.out)
              have r3 := hid (row_on RA.out bV1.out)
              have r4 := hid (row_on RB.out bV1.out)
              have x5 := hid (MPu.out.on bV1.out)
              refine wp_region_held_drew (S := (fun U => U.cell? ⟨H, 2, none⟩ = some (.map (some b)) ∧ U.cell? ⟨gB, 0, none⟩ = some (.int .u32 0) ∧ U.cell? ⟨gB, 1, none⟩ = some (.int .u32 i) ∧ U.cell? ⟨gA, 0, none⟩ = some (.int .u32 m) ∧ U.cell? ⟨gA, 1, none⟩ = some (.int .u32 i))) (by kernel_rfl) ?_ (fun hHeld => ?_)
              · (try dsimp only); rw [hV1]; exact ⟨row_cell r2.out 2, row_cell r4.out 0, row_cell r4.out 1, row_cell r3.out 0, row_cell r3.out 1⟩
              rw [hV1] at hHeld ⊢
              clear hV1
              refine' wpAnyH_take (i := 0) (oi := _) (v := _) rfl (by kernel_rfl) (by kernel_rfl) (by kernel_rfl) (fun _ _ _ h => h) (Or.inl ⟨by kernel_rfl, ?_⟩) (by assumption) ?_
              rotate_left
              · (intro w hSw; (try dsimp only at hSw); go_simp; try (with_reducible rfl))
              try simp only [List.getElem_toArray, List.getElem_cons_succ, List.getElem_cons_zero, Act.put, List.setIfInBounds_toArray, List.set_cons_zero, List.set_cons_succ]
              refine' wpAnyH_take (i := 1) (oi := _) (v := _) rfl (by kernel_rfl) (by kernel_rfl) (by kernel_rfl) (fun _ _ _ h => h) (Or.inl ⟨by kernel_rfl, ?_⟩) (by assumption) ?_
              rotate_left
              · (intro w hSw; (try dsimp only at hSw); go_simp; try (with_reducible rfl))
              try simp only [List.getElem_toArray, List.getElem_cons_succ, List.getElem_cons_zero, Act.put, List.setIfInBounds_toArray, List.set_cons_zero, List.set_cons_succ]
              refine' wpAnyH_take (i := 2) (oi := _) (v := _) rfl (by kernel_rfl) (by kernel_rfl) (by kernel_rfl) (fun _ _ _ h => h) (Or.inl ⟨by kernel_rfl, ?_⟩) (by assumption) ?_
              rotate_left
              · (intro w hSw; (try dsimp only at hSw); go_simp; try (with_reducible rfl))
              try simp only [List.getElem_toArray, List.getElem_cons_succ, List.getElem_cons_zero, Act.put, List.setIfInBounds_toArray, List.set_cons_zero, List.set_cons_succ]
              refine' wpAnyH_take (i := 3) (oi := _) (v := _) rfl (by kernel_rfl) (by kernel_rfl) (by kernel_rfl) (fun _ _ _ h => h) (Or.inl ⟨by kernel_rfl, ?_⟩) (by assumption) ?_
              rotate_left
              · (intro w hSw; (try dsimp only at hSw); go_simp; try (with_reducible rfl))
              try simp only [List.getElem_toArray, List.getElem_cons_succ, List.getElem_cons_zero, Act.put, List.setIfInBounds_toArray, List.set_cons_zero, List.set_cons_succ]
              refine' wpAnyH_take (i := 4) (oi := _) (v := _) rfl (by kernel_rfl) (by kernel_rfl) (by kernel_rfl) (fun _ _ _ h => h) (Or.inl ⟨by kernel_rfl, ?_⟩) (by assumption) ?_
              rotate_left
              · (intro w hSw; (try dsimp only at hSw); go_simp; try (with_reducible rfl))
              try simp only [List.getElem_toArray, List.getElem_cons_succ, List.getElem_cons_zero, Act.put, List.setIfInBounds_toArray, List.set_cons_zero, List.set_cons_succ]
              refine' wpAnyH_take (i := 5) (oi := _) (v := _) rfl (by kernel_rfl) (by kernel_rfl) (by kernel_rfl) (fun _ _ _ h => h) (Or.inl ⟨by kernel_rfl, ?_⟩) (by assumption) ?_
              rotate_left
              · (intro w hSw; (try dsimp only at hSw); go_simp; try (with_reducible rfl))
              try simp only [List.getElem_toArray, List.getElem_cons_succ, List.getElem_cons_zero, Act.put, List.setIfInBounds_toArray, List.set_cons_zero, List.set_cons_succ]
              refine' wpAnyH_take (i := 6) (oi := _) (v := _) rfl (by kernel_rfl) (by kernel_rfl) (by kernel_rfl) (fun _ _ _ h => h) (Or.inl ⟨by kernel_rfl, ?_⟩) (by assumption) ?_
              rotate_left
              · (intro w hSw; (try dsimp only at hSw); go_simp; try (with_reducible rfl))
              try simp only [List.getElem_toArray, List.getElem_cons_succ, List.getElem_cons_zero, Act.put, List.setIfInBounds_toArray, List.set_cons_zero, List.set_cons_succ]
              refine' wpAnyH_take (i := 8) (oi := _) (v := _) rfl (by kernel_rfl) (by kernel_rfl) (by kernel_rfl) (fun _ _ _ h => h) (Or.inl ⟨by kernel_rfl, ?_⟩) (by assumption) ?_
              rotate_left
              · (intro w hSw; (try dsimp only at hSw); go_simp; try (with_reducible rfl))
              try simp only [List.getElem_toArray, List.getElem_cons_succ, List.getElem_cons_zero, Act.put, List.setIfInBounds_toArray, List.set_cons_zero, List.set_cons_succ]
              refine' wpAnyH_take (i := 9) (oi := _) (v := _) rfl (by kernel_rfl) (by kernel_rfl) (by kernel_rfl) (fun _ _ _ h => h) (Or.inl ⟨by kernel_rfl, ?_⟩) (by assumption) ?_
              rotate_left
              · (intro w hSw; (try dsimp only at hSw); go_simp; try (with_reducible rfl))
              try simp only [List.getElem_toArray, List.getElem_cons_succ, List.getElem_cons_zero, Act.put, List.setIfInBounds_toArray, List.set_cons_zero, List.set_cons_succ]
              refine' wpAnyH_take (i := 10) (oi := _) (v := _) rfl (by kernel_rfl) (by kernel_rfl) (by kernel_rfl) (fun _ _ _ h => h) (Or.inl ⟨by kernel_rfl, ?_⟩) (by assumption) ?_
              rotate_left
              · (intro w hSw; (try dsimp only at hSw); go_simp; try (with_reducible rfl))
              try simp only [List.getElem_toArray, List.getElem_cons_succ, List.getElem_cons_zero, Act.put, List.setIfInBounds_toArray, List.set_cons_zero, List.set_cons_succ]
              refine' wpAnyH_take (i := 11) (oi := _) (v := _) rfl (by kernel_rfl) (by kernel_rfl) (by kernel_rfl) (fun _ _ _ h => h) (Or.inl ⟨by kernel_rfl, ?_⟩) (by assumption) ?_
              rotate_left
              · (intro w hSw; (try dsimp only at hSw); go_simp; try (with_reducible rfl))
              try simp only [List.getElem_toArray, List.getElem_cons_succ, List.getElem_cons_zero, Act.put, List.setIfInBounds_toArray, List.set_cons_zero, List.set_cons_succ]
              refine' wpAnyH_take (i := 12) (oi := _) (v := _) rfl (by kernel_rfl) (by kernel_rfl) (by kernel_rfl) (fun _ _ _ h => h) (Or.inl ⟨by kernel_rfl, ?_⟩) (by assumption) ?_
              rotate_left
              · (intro w hSw; (try dsimp only at hSw); go_simp; try (with_reducible rfl))
              try simp only [List.getElem_toArray, List.getElem_cons_succ, List.getElem_cons_zero, Act.put, List.setIfInBounds_toArray, List.set_cons_zero, List.set_cons_succ]
              refine wpAnyH_ready (rs := [7, 13]) (by kernel_rfl) (by simp) ?_
              refine (AllReadyH.cons (o := _) rfl (fun K hK => ?_) (AllReadyH.cons (o := _) rfl (fun K hK => ?_) AllReadyH.nil))
              · have hl := LT.out V1 x5.out
                go_simp
                refine hK.out _ _ ?_ (fun hHeld => ?_)
                · (try dsimp only); exact ⟨row_cell r2.out 2, row_cell r4.out 0, row_cell r4.out 1, row_cell r3.out 0, row_cell r3.out 1⟩
                clear hK K hl
                try simp only [List.getElem_toArray, List.getElem_cons_succ, List.getElem_cons_zero, Act.put, List.setIfInBounds_toArray, List.set_cons_zero, List.set_cons_succ]
                refine wpAnyH_ready (rs := [13]) (by kernel_rfl) (by simp) ?_
                refine (AllReadyH.cons (o := _) rfl (fun K hK => ?_) AllReadyH.nil)
                have hl := LF.out V1 x5.out
                go_simp
                refine hK.out _ _ ?_ (fun hHeld => ?_)
                · (try dsimp only); exact ⟨row_cell r2.out 2, row_cell r4.out 0, row_cell r4.out 1, row_cell r3.out 0, row_cell r3.out 1⟩
                clear hK K hl
                try simp only [List.getElem_toArray, List.getElem_cons_succ, List.getElem_cons_zero, Act.put, List.setIfInBounds_toArray, List.set_cons_zero, List.set_cons_succ]
                refine wpAnyH_ready (rs := [14]) (by kernel_rfl) (by simp) ?_
                refine (AllReadyH.cons (o := _) rfl (fun K hK => ?_) AllReadyH.nil)
                go_simp
                go_at_call 36
                with_reducible refine (CA.out V1).mono ?_
                rintro e X6 ⟨rfl, cX6⟩
                have bX6 := hid cX6
                clear cX6
                have DX6 := hid (btr DV1.out bX6.out)
                have r7 := hid (row_on r2.out bX6.out)
                have r8 := hid (row_on r3.out bX6.out)
                have r9 := hid (row_on r4.out bX6.out)
                have x10 := hid (x5.out.on bX6.out)
                (try go_wp2_with fail)
                refine hK.out _ _ ?_ (fun hHeld => ?_)
                · (try dsimp only); exact ⟨row_cell r7.out 2, row_cell r9.out 0, row_cell r9.out 1, row_cell r8.out 0, row_cell r8.out 1⟩
                clear hK K
                try simp only [List.getElem_toArray, List.getElem_cons_succ, List.getElem_cons_zero, Act.put, List.setIfInBounds_toArray, List.set_cons_zero, List.set_cons_succ]
                refine wpAnyH_ready (rs := [15]) (by kernel_rfl) (by simp) ?_
                refine (AllReadyH.cons (o := _) rfl (fun K hK => ?_) AllReadyH.nil)
                have CH := hid (hold_some 0 i ⟨q, v⟩ HQ0.out H b o p k c X6 (fun U' => Mp kvP U' b (n + 1) (upd f (0, i) ⟨q, v⟩)) r7.out (Mp.obj x10.out) (fun U hU => by
                  obtain ⟨U', h1, h2, h3⟩ := (x10.out.on hU).put okP (by have := HNN.out; unfold maxLen; omega) (0, i) ⟨u32_mk (by omega) (by omega), HUI.out⟩ ⟨q, v⟩
                  exact ⟨U', h1, h3, h2⟩))
                have nb9 : ∀ {r' : Nat} {cs : Array Value} {t : TypeId}, X6.heap[r']? = some (.cells cs t (0, 0)) → ¬ r' = b := fun e e2 => by
                  obtain ⟨es, cl, e3⟩ := Mp.obj x10.out
                  rw [e2, e3] at e
                  cases e
                go_simp
                go_at_call 39
                with_reducible refine CH.out.mono ?_
                rintro e w9 ⟨rfl, h1, h2⟩
                have K9 := hid h1
                have M9 := hid h2
                clear h1 h2 CH
                have r11 := hid (K9.out.row r7.out (nb9 r7.out))
                have r12 := hid (K9.out.row r8.out (nb9 r8.out))
                have r13 := hid (K9.out.row r9.out (nb9 r9.out))
                clear nb9
                (try go_wp2_with fail)
                refine hK.out _ _ ?_ (fun hHeld => ?_)
                · (try dsimp only); exact ⟨row_cell r11.out 2, row_cell r13.out 0, row_cell r13.out 1, row_cell r12.out 0, row_cell r12.out 1⟩
                clear hK K
                try simp only [List.getElem_toArray, List.getElem_cons_succ, List.getElem_cons_zero, Act.put, List.setIfInBounds_toArray, List.set_cons_zero, List.set_cons_succ]
                refine wpAnyH_done (by kernel_rfl) ?_ _
                exact ⟨(), by kernel_rfl, r12, hid ((Kp.of (fun j => j = b) DX6.out).trans K9.out (fun g _ e => e)), M9⟩
              · have hl := LF.out V1 x5.out
                go_simp
                refine hK.out _ _ ?_ (fun hHeld => ?_)
                · (try dsimp only); exact ⟨row_cell r2.out 2, row_cell r4.out 0, row_cell r4.out 1, row_cell r3.out 0, row_cell r3.out 1⟩
                clear hK K hl
                try simp only [List.getElem_toArray, List.getElem_cons_succ, List.getElem_cons_zero, Act.put, List.setIfInBounds_toArray, List.set_cons_zero, List.set_cons_succ]
                refine wpAnyH_ready (rs := [7]) (by kernel_rfl) (by simp) ?_
                refine (AllReadyH.cons (o := _) rfl (fun K hK => ?_) AllReadyH.nil)
                have hl := LT.out V1 x5.out
                go_simp
                refine hK.out _ _ ?_ (fun hHeld => ?_)
                · (try dsimp only); exact ⟨row_cell r2.out 2, row_cell r4.out 0, row_cell r4.out 1, row_cell r3.out 0, row_cell r3.out 1⟩
                clear hK K hl
                try simp only [List.getElem_toArray, List.getElem_cons_succ, List.getElem_cons_zero, Act.put, List.setIfInBounds_toArray, List.set_cons_zero, List.set_cons_succ]
                refine wpAnyH_ready (rs := [14]) (by kernel_rfl) (by simp) ?_
                refine (AllReadyH.cons (o := _) rfl (fun K hK => ?_) AllReadyH.nil)
                go_simp
                go_at_call 36
                with_reducible refine (CA.out V1).mono ?_
                rintro e X14 ⟨rfl, cX14⟩
                have bX14 := hid cX14
                clear cX14
                have DX14 := hid (btr DV1.out bX14.out)
                have r15 := hid (row_on r2.out bX14.out)
                have r16 := hid (row_on r3.out bX14.out)
                have r17 := hid (row_on r4.out bX14.out)
                have x18 := hid (x5.out.on bX14.out)
                (try go_wp2_with fail)
                refine hK.out _ _ ?_ (fun hHeld => ?_)
                · (try dsimp only); exact ⟨row_cell r15.out 2, row_cell r17.out 0, row_cell r17.out 1, row_cell r16.out 0, row_cell r16.out 1⟩
                clear hK K
                try simp only [List.getElem_toArray, List.getElem_cons_succ, List.getElem_cons_zero, Act.put, List.setIfInBounds_toArray, List.set_cons_zero, List.set_cons_succ]
                refine wpAnyH_ready (rs := [15]) (by kernel_rfl) (by simp) ?_
                refine (AllReadyH.cons (o := _) rfl (fun K hK => ?_) AllReadyH.nil)
                have CH := hid (hold_some 0 i ⟨q, v⟩ HQ0.out H b o p k c X14 (fun U' => Mp kvP U' b (n + 1) (upd f (0, i) ⟨q, v⟩)) r15.out (Mp.obj x18.out) (fun U hU => by
                  obtain ⟨U', h1, h2, h3⟩ := (x18.out.on hU).put okP (by have := HNN.out; unfold maxLen; omega) (0, i) ⟨u32_mk (by omega) (by omega), HUI.out⟩ ⟨q, v⟩
                  exact ⟨U', h1, h3, h2⟩))
                have nb9 : ∀ {r' : Nat} {cs : Array Value} {t : TypeId}, X14.heap[r']? = some (.cells cs t (0, 0)) → ¬ r' = b := fun e e2 => by
                  obtain ⟨es, cl, e3⟩ := Mp.obj x18.out
                  rw [e2, e3] at e
                  cases e
                go_simp
                go_at_call 39
                with_reducible refine CH.out.mono ?_
                rintro e w9 ⟨rfl, h1, h2⟩
                have K9 := hid h1
                have M9 := hid h2
                clear h1 h2 CH
                have r19 := hid (K9.out.row r15.out (nb9 r15.out))
                have r20 := hid (K9.out.row r16.out (nb9 r16.out))
                have r21 := hid (K9.out.row r17.out (nb9 r17.out))
                clear nb9
                (try go_wp2_with fail)
                refine hK.out _ _ ?_ (fun hHeld => ?_)
                · (try dsimp only); exact ⟨row_cell r19.out 2, row_cell r21.out 0, row_cell r21.out 1, row_cell r20.out 0, row_cell r20.out 1⟩
                clear hK K
                try simp only [List.getElem_toArray, List.getElem_cons_succ, List.getElem_cons_zero, Act.put, List.setIfInBounds_toArray, List.set_cons_zero, List.set_cons_succ]
                refine wpAnyH_done (by kernel_rfl) ?_ _
                exact ⟨(), by kernel_rfl, r20, hid ((Kp.of (fun j => j = b) DX14.out).trans K9.out (fun g _ e => e)), M9⟩
            rintro - Q ⟨RAQ, KQ, MQ⟩
            have nbu : ∀ {r' : Nat} {cs : Array Value} {t : TypeId}, Wu.heap[r']? = some (.cells cs t (0, 0)) → ¬ r' = b := fun e e2 => by
              obtain ⟨es, cl, e3⟩ := Mp.obj MPu.out
              rw [e2, e3] at e
              cases e
            have HOQ := hid (HOu.out.map KQ.out (fun r' cs t e _ => nbu e) (KQ.out.row HOu.out.row (nbu HOu.out.row)) MQ.out)
            have RHQ := hid (show Q.heap[H]? = some (.cells #[.int .u64 o, .slice p k c, .map (some b)] 100 (0, 0)) from KQ.out.row RH.out (nbu RH.out))
            clear nbu
            have BRQ := hid (Below.refl Q.heap.size Q)
            go_upto_region 12 with fail
            obtain ⟨V22, hV22⟩ : ∃ U, Q.drew = U := ⟨_, rfl⟩
            have bV22 := hid (show Below Q.heap.size Q V22 from by rw [← hV22]; exact bdrew1 _)
            have DV22 := hid (btr BRQ.out bV22.out)
            have r23 := hid (row_on RHQ.out bV22.out)
            have r24 := hid (row_on RAQ.out bV22.out)
            have x25 := hid (MQ.out.on bV22.out)
            refine wp_region_held_drew (S := (fun U => U.cell? ⟨H, 2, none⟩ = some (.map (some b)) ∧ U.cell? ⟨gA, 0, none⟩ = some (.int .u32 m) ∧ U.cell? ⟨gA, 1, none⟩ = some (.int .u32 i))) (by kernel_rfl) ?_ (fun hHeld => ?_)
            · (try dsimp only); rw [hV22]; exact ⟨row_cell r23.out 2, row_cell r24.out 0, row_cell r24.out 1⟩
            rw [hV22] at hHeld ⊢
            clear hV22
            refine' wpAnyH_take (i := 0) (oi := _) (v := _) rfl (by kernel_rfl) (by kernel_rfl) (by kernel_rfl) (fun _ _ _ h => h) (Or.inl ⟨by kernel_rfl, ?_⟩) (by assumption) ?_
            rotate_left
            · (intro w hSw; (try dsimp only at hSw); go_simp; try (with_reducible rfl))
            try simp only [List.getElem_toArray, List.getElem_cons_succ, List.getElem_cons_zero, Act.put, List.setIfInBounds_toArray, List.set_cons_zero, List.set_cons_succ]
            refine' wpAnyH_take (i := 1) (oi := _) (v := _) rfl (by kernel_rfl) (by kernel_rfl) (by kernel_rfl) (fun _ _ _ h => h) (Or.inl ⟨by kernel_rfl, ?_⟩) (by assumption) ?_
            rotate_left
            · (intro w hSw; (try dsimp only at hSw); go_simp; try (with_reducible rfl))
            try simp only [List.getElem_toArray, List.getElem_cons_succ, List.getElem_cons_zero, Act.put, List.setIfInBounds_toArray, List.set_cons_zero, List.set_cons_succ]
            refine' wpAnyH_take (i := 2) (oi := _) (v := _) rfl (by kernel_rfl) (by kernel_rfl) (by kernel_rfl) (fun _ _ _ h => h) (Or.inl ⟨by kernel_rfl, ?_⟩) (by assumption) ?_
            rotate_left
            · (intro w hSw; (try dsimp only at hSw); go_simp; try (with_reducible rfl))
            try simp only [List.getElem_toArray, List.getElem_cons_succ, List.getElem_cons_zero, Act.put, List.setIfInBounds_toArray, List.set_cons_zero, List.set_cons_succ]
            refine' wpAnyH_take (i := 3) (oi := _) (v := _) rfl (by kernel_rfl) (by kernel_rfl) (by kernel_rfl) (fun _ _ _ h => h) (Or.inl ⟨by kernel_rfl, ?_⟩) (by assumption) ?_
            rotate_left
            · (intro w hSw; (try dsimp only at hSw); go_simp; try (with_reducible rfl))
            try simp only [List.getElem_toArray, List.getElem_cons_succ, List.getElem_cons_zero, Act.put, List.setIfInBounds_toArray, List.set_cons_zero, List.set_cons_succ]
            refine' wpAnyH_take (i := 4) (oi := _) (v := _) rfl (by kernel_rfl) (by kernel_rfl) (by kernel_rfl) (fun _ _ _ h => h) (Or.inl ⟨by kernel_rfl, ?_⟩) (by assumption) ?_
            rotate_left
            · (intro w hSw; (try dsimp only at hSw); go_simp; try (with_reducible rfl))
            try simp only [List.getElem_toArray, List.getElem_cons_succ, List.getElem_cons_zero, Act.put, List.setIfInBounds_toArray, List.set_cons_zero, List.set_cons_succ]
            refine wpAnyH_ready (rs := [5]) (by kernel_rfl) (by simp) ?_
            refine (AllReadyH.cons (o := _) rfl (fun K hK => ?_) AllReadyH.nil)
            obtain ⟨U9, hu9, hm9, hk9⟩ := x25.out.del okP (m, i) ⟨HUM.out, HUI.out⟩ 0
            have hu9 : (Builtin.delete_ #[98, 79] 0 #[.map (some b), .agg #[.int .u32 m, .int .u32 i]]).run Tryz.prog V22 = .ok (.tuple #[]) U9 := hu9
            have M9 := hid hm9
            have K9 := hid hk9
            clear hm9 hk9
            have nb9 : ∀ {r' : Nat} {cs : Array Value} {t : TypeId}, V22.heap[r']? = some (.cells cs t (0, 0)) → ¬ r' = b := fun e e2 => by
              obtain ⟨es, cl, e3⟩ := Mp.obj x25.out
              rw [e2, e3] at e
              cases e
            have r26 := hid (K9.out.row r23.out (nb9 r23.out))
            have r27 := hid (K9.out.row r24.out (nb9 r24.out))
            go_simp
            refine hK.out _ _ ?_ (fun hHeld => ?_)
            · (try dsimp only); exact ⟨row_cell r26.out 2, row_cell r27.out 0, row_cell r27.out 1⟩
            clear hK K hu9 nb9
            try simp only [List.getElem_toArray, List.getElem_cons_succ, List.getElem_cons_zero, Act.put, List.setIfInBounds_toArray, List.set_cons_zero, List.set_cons_succ]
            refine wpAnyH_done (by kernel_rfl) ?_ _
            (try go_wp2)
            go_roundw
            case rel =>
              have kq := (Kp.of (fun j => j = b) DV22.out).trans K9.out (fun g _ e => e)
              have nbq : ∀ {r' : Nat} {cs : Array Value} {t : TypeId}, Q.heap[r']? = some (.cells cs t (0, 0)) → ¬ r' = b := fun e e2 => by
                obtain ⟨es, cl, e3⟩ := Mp.obj MQ.out
                rw [e2, e3] at e
                cases e
              refine .inr ⟨rfl, hid ?_, hid ((((Kp.of (fun j => j = b) (btr HB.out BU.out)).trans KQ.out (fun g _ e => e))).trans kq (fun g _ e => e))⟩
              rw [HFT.out]
              exact HOQ.out.map kq (fun r' cs t e _ => nbq e) (kq.row HOQ.out.row (nbq HOQ.out.row)) M9.out
            case measure => simp [intOf]
          · go_wp2
            go_end0
            exact ⟨rfl, HO2.out, HK2.out⟩
    · obtain ⟨m, i⟩ := x
      obtain ⟨q, v⟩ := pvx
      have hsd := (HSD.out.lf (m, i) hok).1 hlf
      obtain ⟨⟨yb, ym, yf, yg, yc, yo⟩, hy, em⟩ := HM.out _ _ hfx
      have em : ym = m := em
      subst em
      have hgm := gm_of HH.out.up hy
      have HOK := hid (show outK l (ym, i) = yo from by unfold outK; exact congrArg Sv.ou hgm)
      have hnext : ∀ ty, (Instr.next (.pointer (some ⟨r, 0, none⟩)) false ty).run Tryz.prog wr = .ok (.tuple #[.bool true, .agg #[.int .u32 ym, .int .u32 i], .agg #[.int .i64 q, .int .u64 (hiW v), .int .u64 (loW v)]]) wn := hnext
      have hentry : (Instr.entry (.pointer (some ⟨r, 0, none⟩))).run Tryz.prog wn = .ok (.tuple #[.agg #[.int .u32 ym, .int .u32 i], .agg #[.int .i64 q, .int .u64 (hiW v), .int .u64 (loW v)]]) wn := hentry
      obtain ⟨m, rfl⟩ : ∃ m, m = ym := ⟨_, rfl⟩
      have HMN := hid hmr
      have HLT := hid hlt
      have HBN := hid (HB.out.trans (hko.below HB.out.size (fun j hj e => by have := HRR.out; omega)))
      have OGN := hid (own_kp OG.out hko (fun r' cs e h2 e2 => by omega))
      have HY := hid hy
      have HSD2 := hid (show Sd f (fun x => lf x && !(decide (x = (m, i)))) (ks ++ [(m, i)]) from ⟨by
        rw [List.nodup_append]
        exact ⟨HSD.out.nd, by simp, fun a ha b hb e => by simp at hb; subst hb; subst e; exact hsd.2 ha⟩, fun k hk => by
        rcases List.mem_append.1 hk with hk | hk
        · exact HSD.out.ok k hk
        · simp at hk; subst hk; exact ⟨hok, hsd.1⟩, fun k hk => by
        have h1 := HSD.out.lf k hk
        by_cases c : k = (m, i)
        · subst c; simp
        · simp only [c, decide_false, Bool.not_false, Bool.and_true, List.mem_append, List.mem_singleton, or_false]; exact h1⟩)
      have HFA := hid (show (ks ++ [(m, i)]).filter (outK l) = ks.filter (outK l) ++ (if yo = true then [(m, i)] else []) from by
        rw [List.filter_append, List.filter_cons, HOK.out]; rfl)
      clear hok hlf hmr hlt hko hfx hsd hy hgm
      obtain ⟨gA, hgA⟩ : ∃ g, wn.heap.size = g := ⟨_, rfl⟩
      obtain ⟨Wx, hWx⟩ : ∃ W, wn.alloc (.cells #[.int .u32 0, .int .u32 0] 79) = W := ⟨_, rfl⟩
      obtain ⟨Wu, hWu⟩ : ∃ W, Wx.setRow gA #[.int .u32 m, .int .u32 i] = W := ⟨_, rfl⟩
      have bx : Below wn.heap.size wn Wx := by rw [← hWx]; exact ball _ _
      have ZA := hid (show Wx.heap[gA]? = some (.cells #[.int .u32 0, .int .u32 0] 79 (0, 0)) from by rw [← hWx, ← hgA]; exact World.alloc_heap_new _ _)
      have RA := hid (show Wu.heap[gA]? = some (.cells #[.int .u32 m, .int .u32 i] 79 (0, 0)) from by rw [← hWu]; exact setRow_heap _ _ _ _ 79 (0, 0) ZA.out)
      have BU := hid (show Below wn.heap.size wn Wu from by rw [← hWu]; exact setRow_below bx (Nat.le_of_eq hgA))
      clear bx
      go_upto_region 4 with (refine wpList_store_row (by rfl) 79 (.tmp 3) (.tmp 16) (by rfl) gA #[.int .u32 m, .int .u32 i] (by rfl) (by rfl) 79 _ ZA.out infoH2 (by rfl) (by simp [Value.oneCell']) ?_; rw [hWu])
      clear hgA hWx hWu ZA
      clear hnext hentry
      have BUN := hid (btr HBN.out BU.out)
      have HOU := hid (HH.out.on BUN.out)
      have CF := hid (find_yes Wu HOU.out HY.out (show (yb, (⟨m, yf, yg, yc, yo⟩ : Sv)).2.m = m from rfl))
      have a0 := row_cell RA.out 0
      simp only [List.getElem?_toArray, List.getElem?_cons_succ, List.getElem?_cons_zero] at a0
      go_upto_region 5 with (go_at_call 66; with_reducible refine CF.out.mono ?_; rintro e Z ⟨rfl, hZ⟩; have BZ := hid hZ; clear hZ)
      clear a0 CF
      have BZN := hid (btr BUN.out BZ.out)
      have RYZ := hid (show Z.heap[yb]? = some (.cells (srow ⟨m, yf, yg, yc, yo⟩) 106 (0, 0)) from (HH.out.on BZN.out).me.st _ HY.out)
      have RAZ := hid (row_on RA.out BZ.out)
      have OGZ := hid (own_on OGN.out (btr BU.out BZ.out))
      have HMZ := hid (HMN.out.on (btr BU.out BZ.out))
      have y5 := row_cell RYZ.out 5
      simp only [List.getElem?_toArray, List.getElem?_cons_succ, List.getElem?_cons_zero] at y5
      have a0 := row_cell RAZ.out 0
      have a1 := row_cell RAZ.out 1
      simp only [List.getElem?_toArray, List.getElem?_cons_succ, List.getElem?_cons_zero] at a0 a1
      cases yo with
      | false =>
        go_wp2
        go_roundg cn
        case measure => exact HLT.out
        case rel =>
          refine ⟨_, ks ++ [(m, i)], gq, gd, m0, rfl, hid ?_, HSD2, HMZ, ?_, BZN⟩
          · rw [HFA.out, show (if false = true then [(m, i)] else []) = ([] : List (Int × Int)) from rfl, List.append_nil]; have h1 := HM0.out; have h2 := HLT.out; exact ⟨h1.1, by omega⟩
          · rw [HFA.out, show (if false = true then [(m, i)] else []) = ([] : List (Int × Int)) from rfl, List.append_nil]; exact OGZ
      | true =>
        obtain ⟨X, hX⟩ : ∃ X, Z.alloc (.cells #[.int .u32 m, .int .u32 i] 79) = X := ⟨_, rfl⟩
        have BX := hid (show Below Z.heap.size Z X from by rw [← hX]; exact ball _ _)
        have OGX := hid (own_on OGZ.out BX.out)
        have RN := hid (show ∀ j u, ([.int .u32 m, .int .u32 i] : List Value)[j]? = some u → X.cell? ((⟨Z.heap.size, 0, none⟩ : Addr).add j) = some u from fun j u hj => by
          rw [Addr.add_lit, Nat.zero_add, row_cell (show X.heap[Z.heap.size]? = some (.cells #[.int .u32 m, .int .u32 i] 79 (0, 0)) from by rw [← hX]; exact World.alloc_heap_new _ _)]
          simpa using hj)
        have H1 := hid (show ∀ u ∈ ([.int .u32 m, .int .u32 i] : List Value), u.oneCell' = true from fun u hu => by simp at hu; rcases hu with rfl | rfl <;> rfl)
        have HXX := hid hX
        have HBX := hid (show r + 1 ≤ X.heap.size from by have h1 := BX.out.size; have h2 := BZN.out.size; have h3 := HMZ.out.lt; have := HRR.out; omega)
        clear hX
        go_wp2_with (rw [HXX.out]; at_builtin; refine wpList_append_lies X (by rfl) (.tmp 29) (.tmp 31) 76 (by rfl) (r + 1) 79 iH _ 2 8 Tryz.underlying76 IH.out.1 IH.out.2.1 IH.out.2.2.1 IH.out.2.2.2 rfl (by decide) _ m0 (hcs (ks.filter (outK l))) (by rfl) OGX.out ⟨Z.heap.size, 0, none⟩ 1 1 [.int .u32 m, .int .u32 i] (by rfl) (by rfl) RN.out H1.out (by decide) (by have := HM0.out.2; have := HNN.out; unfold maxLen; omega) (by have := HM0.out.2; have := HNN.out; omega) HBX.out _ rfl ?_; intro g9 cap9 w9 h1 h2 h3 h4; have O9 := hid h1; have G9 := hid h2; clear h1 h2 h3 h4)
        go_roundg cn
        case measure => exact HLT.out
        case rel =>
          have k9 : Kp (fun j => r + 1 ≤ j) X w9 := ⟨G9.out.os, G9.out.tape, G9.out.output, G9.out.size, fun j hj hne => G9.out.block j hj (fun e => hne (own_lo OGX.out e.symm).1)⟩
          have hbl := HH.out.lt (b := b) (.inr (.inr (.inr rfl)))
          refine ⟨_, ks ++ [(m, i)], some ⟨g9, 0, none⟩, cap9, m0 + 1, rfl, hid ?_, HSD2, hid ((HMZ.out.on BX.out).kept k9 (fun e => ?_) (fun e => ?_)), ?_, hid ((btr BZN.out BX.out).trans (k9.below (btr BZN.out BX.out).size (fun j hj e => by have := HRR.out; omega)))⟩
          · rw [HFA.out, List.length_append]; have h1 := HM0.out; have h2 := HLT.out; exact ⟨by rw [← h1.1]; rfl, by omega⟩
          · have := HRR.out; omega
          · omega
          · rw [HFA.out]; unfold hcs; rw [List.flatMap_append]; exact O9
end Go.Proofs.YtlhbgaiiehljpaaGreat.Ac
