/-
  A new call; a side's interests; the quote; an uncross where there is no price.
-/
import Derived.Test.YtnmkfdndfhefiaaGreatAuM
namespace Go.Proofs.YtnmkfdndfhefiaaGreat
open Go.RowKit Go.Deep Go.Sort
set_option linter.unusedVariables false
set_option linter.unusedSimpArgs false
set_option maxHeartbeats 4000000
set_option maxRecDepth 100000
section
variable {P : Program}
theorem res_ct {fn : Func} {p q : Tmp} {ty : TypeId} (h : fn.results = #[.cell p ty, .tmp q]) (tmps : Array Value) (w : World) (g : Nat) (t : TypeId) (cs : Array Value) (fr : Nat × Nat) (d : TypeDesc) (v : Value)
    (hp : tmps.getD p undef = .pointer (some ⟨g, 0, none⟩)) (hq : tmps.getD q undef = v) (hg : w.heap[g]? = some (.cells cs t fr))
    (hu : P.underlying ty = some d) (hd : (match d with | .struct _ | .array _ _ => true | _ => false) = true) (hi : (P.info? ty).map (·.size) = some cs.size) :
    (results fn tmps).run P w = .ok (.tuple #[.agg cs, v]) w := by
  have hp' : tmps[p]?.getD undef = .pointer (some ⟨g, 0, none⟩) := by simpa using hp
  have hq' : tmps[q]?.getD undef = v := by simpa using hq
  simp [results, h, hp', hq', asAddr, run_loadVar_row w g t ty cs fr d hg hu hd hi]
theorem res_tct {fn : Func} {p0 p q : Tmp} {ty : TypeId} (h : fn.results = #[.tmp p0, .cell p ty, .tmp q]) (tmps : Array Value) (w : World) (g : Nat) (t : TypeId) (cs : Array Value) (fr : Nat × Nat) (d : TypeDesc) (u v : Value)
    (hp0 : tmps.getD p0 undef = u) (hp : tmps.getD p undef = .pointer (some ⟨g, 0, none⟩)) (hq : tmps.getD q undef = v) (hg : w.heap[g]? = some (.cells cs t fr))
    (hu : P.underlying ty = some d) (hd : (match d with | .struct _ | .array _ _ => true | _ => false) = true) (hi : (P.info? ty).map (·.size) = some cs.size) :
    (results fn tmps).run P w = .ok (.tuple #[u, .agg cs, v]) w := by
  have hp' : tmps[p]?.getD undef = .pointer (some ⟨g, 0, none⟩) := by simpa using hp
  have hq' : tmps[q]?.getD undef = v := by simpa using hq
  have hp0' : tmps[p0]?.getD undef = u := by simpa using hp0
  simp [results, h, hp', hq', hp0', asAddr, run_loadVar_row w g t ty cs fr d hg hu hd hi]
end
/-- what New takes. -/
def nwk (r m : Int) : Bool := isP r && decide (1 ≤ m ∧ m ≤ 4096)
theorem new_bad (r m : Int) (w : World) (h : nwk r m = false) : Calls Tryz.prog 8 #[.int .i64 r, .int .i64 m] w fun e w' => e = .returned (.tuple #[.pointer none, .int .i64 1]) ∧ w' = w := by
  have CP := hid (fun U => isPrice_any r U)
  unfold nwk at h
  cases hp : isP r with
  | false =>
    rw [hp] at CP
    clear hp h
    go_enter Tryz.func8, Tryz.ntmps8
    go_wp2_with (go_at_call 26; with_reducible refine (CP.out _).mono ?_; rintro e w1 ⟨rfl, rfl⟩)
    go_ret2
    exact ⟨rfl, rfl⟩
  | true =>
    rw [hp] at CP h
    have h2 : ¬ (1 ≤ m ∧ m ≤ 4096) := by simpa using h
    by_cases h3 : m < 1
    · clear hp h h2
      go_enter Tryz.func8, Tryz.ntmps8
      go_wp2_with (go_at_call 26; with_reducible refine (CP.out _).mono ?_; rintro e w1 ⟨rfl, rfl⟩)
      go_ret2
      exact ⟨rfl, rfl⟩
    · have h4 : 4096 < m := by omega
      clear hp h h2
      go_enter Tryz.func8, Tryz.ntmps8
      go_wp2_with (go_at_call 26; with_reducible refine (CP.out _).mono ?_; rintro e w1 ⟨rfl, rfl⟩)
      go_ret2
      exact ⟨rfl, rfl⟩
theorem nwk_iff {r m : Int} : nwk r m = true ↔ 0 ≤ r ∧ r < 262144 ∧ 1 ≤ m ∧ m ≤ 4096 := by simp [nwk, isP]; omega
theorem new_ok (r m : Int) (w : World) (h : nwk r m = true) : Calls Tryz.prog 8 #[.int .i64 r, .int .i64 m] w fun e w' => e = .returned (.tuple #[.pointer (some ⟨w.heap.size, 0, none⟩), .int .i64 0]) ∧ w' = w.alloc (.cells #[.int .i64 r, .int .i64 m, .slice none 0 0, .slice none 0 0] 74) := by
  obtain ⟨a1, a2, a3, a4⟩ := nwk_iff.1 h
  have CP := hid (fun U => isPrice_any r U)
  rw [show isP r = true by simp [isP]; omega] at CP
  clear h
  go_enter Tryz.func8, Tryz.ntmps8
  go_wp2_with (go_at_call 26; with_reducible refine (CP.out _).mono ?_; rintro e w1 ⟨rfl, rfl⟩)
  go_ret2
  exact ⟨rfl, rfl⟩
theorem Cl.new {r m : Int} (w : World) (h : nwk r m = true) : Cl (w.alloc (.cells #[.int .i64 r, .int .i64 m, .slice none 0 0, .slice none 0 0] 74)) w.heap.size r m none 0 [] none 0 [] := by
  obtain ⟨a1, a2, a3, a4⟩ := nwk_iff.1 h
  exact ⟨World.alloc_heap_new _ _, Li.nil _, Li.nil _, Sd.nil _, Sd.nil _, (fun g h => by cases h), a1, a2, a3, a4, by simp; omega⟩
theorem interests1 (B : Nat) (r m : Int) (p1 : Option Addr) (c1 : Nat) (b : List It) (p2 : Option Addr) (c2 : Nat) (s : List It) (w : World) (h : Cl w B r m p1 c1 b p2 c2 s) :
    Calls Tryz.prog 23 #[.pointer (some ⟨B, 0, none⟩), .int .i64 1] w fun e w' => ∃ p' c', e = .returned (.slice p' b.length c') ∧ Li w' p' c' b ∧ Below w.heap.size w w' ∧ ∀ g, OfP p' g → w.heap.size ≤ g := by
  have CS := hid (fun U => isSide_any 1 U)
  rw [show isS 1 = true from rfl] at CS
  have O1 := hid (fun U => of1 B U)
  obtain ⟨k0, k1, k2, k3⟩ := h.cells
  have CC := hid (cloneI_any p1 c1 b w h.l1 h.s1.ln)
  clear h
  go_enter Tryz.func23, Tryz.ntmps23
  go_wp2_with (first | (go_at_call 44; with_reducible refine (CS.out _).mono ?_; rintro e w1 ⟨rfl, rfl⟩) | (go_at_call 30; with_reducible refine (O1.out _).mono ?_; rintro e w1 ⟨rfl, rfl⟩) | (go_at_call 45; with_reducible refine (CC.out).mono ?_; rintro e w2 ⟨p', c', rfl, h1, h2, h3⟩; have H1 := hid h1; have H2 := hid h2; have H3 := hid h3; clear h1 h2 h3))
  go_ret
  exact ⟨p', c', rfl, H1.out, H2.out, H3.out⟩
theorem interests2 (B : Nat) (r m : Int) (p1 : Option Addr) (c1 : Nat) (b : List It) (p2 : Option Addr) (c2 : Nat) (s : List It) (w : World) (h : Cl w B r m p1 c1 b p2 c2 s) :
    Calls Tryz.prog 23 #[.pointer (some ⟨B, 0, none⟩), .int .i64 2] w fun e w' => ∃ p' c', e = .returned (.slice p' s.length c') ∧ Li w' p' c' s ∧ Below w.heap.size w w' ∧ ∀ g, OfP p' g → w.heap.size ≤ g := by
  have CS := hid (fun U => isSide_any 2 U)
  rw [show isS 2 = true from rfl] at CS
  have O1 := hid (fun U => of2 B U)
  obtain ⟨k0, k1, k2, k3⟩ := h.cells
  have CC := hid (cloneI_any p2 c2 s w h.l2 h.s2.ln)
  clear h
  go_enter Tryz.func23, Tryz.ntmps23
  go_wp2_with (first | (go_at_call 44; with_reducible refine (CS.out _).mono ?_; rintro e w1 ⟨rfl, rfl⟩) | (go_at_call 30; with_reducible refine (O1.out _).mono ?_; rintro e w1 ⟨rfl, rfl⟩) | (go_at_call 45; with_reducible refine (CC.out).mono ?_; rintro e w2 ⟨p', c', rfl, h1, h2, h3⟩; have H1 := hid h1; have H2 := hid h2; have H3 := hid h3; clear h1 h2 h3))
  go_ret
  exact ⟨p', c', rfl, H1.out, H2.out, H3.out⟩
/-- those of the most volume. -/
def mst (r : Int) (b s : List It) : List Qt := bst (fun z => -z.vo) (cds r b s)
/-- the quote, if there is a price. -/
def quo (r : Int) (b s : List It) : Option Qt := if ((mst r b s).headD q0).vo = 0 then none else some (dcd r (mst r b s))
theorem pcs_pos (r : Int) (b s : List It) : 0 < (pcs r b s).length := by
  unfold pcs cpt Lib.compact
  have h : 0 < (srt (r :: lp b ++ lp s)).length := by rw [srt_len]; simp
  obtain ⟨m, hm⟩ : ∃ m, (srt (r :: lp b ++ lp s)).length = m + 1 := ⟨(srt (r :: lp b ++ lp s)).length - 1, by omega⟩
  rw [hm]
  have go : ∀ m, 0 < (Lib.compactUpTo (srt (r :: lp b ++ lp s)).toArray (m + 1)).length := by
    intro m
    induction m with
    | zero => simp [Lib.compactUpTo_succ, Lib.keeps]
    | succ m ih => rw [Lib.compactUpTo_succ, List.length_append]; omega
  exact go m
theorem cds_len (r : Int) (b s : List It) : (cds r b s).length = (pcs r b s).length := by simp [cds]
theorem qAt_pr (p b s : Int) : (qAt p b s).pr = p := by unfold qAt; split; rfl; split <;> rfl
theorem cpt_mem {zs : List Int} {x : Int} (h : x ∈ cpt zs) : x ∈ zs := by
  unfold cpt Lib.compact at h
  have go : ∀ m, m ≤ zs.length → x ∈ Lib.compactUpTo zs.toArray m → x ∈ zs := by
    intro m
    induction m with
    | zero => intro _ h; simp [Lib.compactUpTo] at h
    | succ m ih =>
      intro hm h
      rw [Lib.compactUpTo_succ] at h
      rcases List.mem_append.1 h with h | h
      · exact ih (by omega) h
      · split at h
        · simp only [List.mem_singleton] at h
          rw [h, getElem!_pos zs.toArray m (by simp; omega)]
          simp
        · simp at h
  exact go _ (Nat.le_refl _) h
theorem srt_mem {zs : List Int} {x : Int} : x ∈ srt zs ↔ x ∈ zs := by unfold srt; exact List.mem_mergeSort
theorem lp_mem {l : List It} {x : Int} (h : x ∈ lp l) : ∃ y ∈ l, y.ty = 1 ∧ y.pr = x := by
  unfold lp at h
  obtain ⟨y, hy, rfl⟩ := List.mem_map.1 h
  obtain ⟨h1, h2⟩ := List.mem_filter.1 hy
  exact ⟨y, h1, by simpa using h2, rfl⟩
theorem pcs_ok {r : Int} {b s : List It} (r0 : 0 ≤ r) (r1 : r < 262144) (hb : Sd 1 b) (hs : Sd 2 s) : ∀ x ∈ pcs r b s, 0 ≤ x ∧ x < 262144 := by
  intro x hx
  have := srt_mem.1 (cpt_mem hx)
  rcases List.mem_append.1 this with h | h
  · rcases List.mem_cons.1 h with rfl | h
    · exact ⟨r0, r1⟩
    · obtain ⟨y, hy, _, rfl⟩ := lp_mem h
      exact ⟨(hb.ok y hy).p0, (hb.ok y hy).p1⟩
  · obtain ⟨y, hy, _, rfl⟩ := lp_mem h
    exact ⟨(hs.ok y hy).p0, (hs.ok y hy).p1⟩
theorem cds_ok {r : Int} {b s : List It} (r0 : 0 ≤ r) (r1 : r < 262144) (hb : Sd 1 b) (hs : Sd 2 s) : ∀ a ∈ cds r b s, 0 ≤ a.pr ∧ a.pr < 262144 := by
  intro a ha
  obtain ⟨x, hx, rfl⟩ := List.mem_map.1 ha
  rw [qAt_pr]
  exact pcs_ok r0 r1 hb hs x hx
theorem quote_any (B : Nat) (r m : Int) (p1 : Option Addr) (c1 : Nat) (b : List It) (p2 : Option Addr) (c2 : Nat) (s : List It) (w : World) (h : Cl w B r m p1 c1 b p2 c2 s) :
    Calls Tryz.prog 17 #[.pointer (some ⟨B, 0, none⟩)] w fun e w' => e = .returned (.tuple #[.agg (qrow ((quo r b s).getD q0)), .bool (quo r b s).isSome]) ∧ Below w.heap.size w w' := by
  obtain ⟨R, hR⟩ : ∃ R, w.heap.size = R := ⟨_, rfl⟩
  have HRR := hid hR
  obtain ⟨W, hW⟩ : ∃ W, w.alloc (.cells #[.int .i64 0, .int .u64 0, .int .u64 0, .int .i64 0, .int .i64 0] 57) = W := ⟨_, rfl⟩
  have HBW := hid (show Below w.heap.size w W from by rw [← hW]; exact ball _ _)
  have HZ := hid (show W.heap[R]? = some (.cells #[.int .i64 0, .int .u64 0, .int .u64 0, .int .i64 0, .int .i64 0] 57 (0, 0)) from by rw [← hW, ← hR]; exact World.alloc_heap_new _ _)
  have HW := hid hW
  have HC := hid h
  have hcl := cds_len r b s
  have hp0 := pcs_pos r b s
  have hp1 := pcs_len (r := r) h.s1 h.s2
  have CC := hid (candidates_any B r m p1 c1 b p2 c2 s W (h.on HBW.out))
  have CM := hid (fun (q : Option Addr) (d : Nat) (U : World) (hq : Qs W.heap.size U q d (cds r b s)) => most_any W.heap.size q d (cds r b s) U hq (by omega) (by omega))
  have hm0 : 0 < (mst r b s).length := bst_pos (by omega)
  have hm1 : (mst r b s).length ≤ 8193 := Nat.le_trans (bst_le _ _) (by omega)
  have HMG := hid (show ∀ a ∈ mst r b s, 0 ≤ a.pr ∧ a.pr < 262144 from fun a ha => cds_ok h.r0 h.r1 h.s1 h.s2 a (bst_mem ha))
  obtain ⟨nc, hnc⟩ : ∃ n, (cds r b s).length = n := ⟨_, rfl⟩
  change Hid (∀ (q : Option Addr) (d : Nat) (U : World), Qs W.heap.size U q d (cds r b s) → Calls Tryz.prog 35 #[.slice q (cds r b s).length d, .func (.func 37) #[] #[]] U fun e w' => ∃ p' c', e = .returned (.slice p' (mst r b s).length c') ∧ Qs U.heap.size w' p' c' (mst r b s) ∧ Below U.heap.size U w') at CM
  rw [hnc] at CC CM
  obtain ⟨L, hL⟩ : ∃ L, mst r b s = L := ⟨_, rfl⟩
  have HL := hid hL
  rw [hL] at CM hm0 hm1 HMG
  obtain ⟨k, hk⟩ : ∃ n, L.length = n := ⟨_, rfl⟩
  have HK := hid hk
  rw [hk] at CM
  have HM0 := hid hm0
  have HM1 := hid hm1
  have k0 : (0 : Int) < (k : Int) := by omega
  have CD := hid (fun (q : Option Addr) (d : Nat) (base : Nat) (U : World) (hq : Qs base U q d L) => decided_any r base q d L U hq HM0.out HM1.out HC.out.r0 HC.out.r1 HMG.out)
  rw [hk] at CD
  clear h hW hR hcl hp0 hp1 hnc hL hk hm0 hm1
  by_cases c0 : (L.headD q0).vo = 0
  · have HE := hid (show quo r b s = none by unfold quo; rw [HL.out, if_pos c0])
    go_enter Tryz.func17, Tryz.ntmps17
    go_upto_region 1 with fail
    rw [HW.out, HRR.out]
    go_upto_region 2 with (first | (go_at_call 36; with_reducible refine (CC.out).mono ?_; rintro e v1 ⟨q, d, rfl, hq, hb⟩; have HQ1 := hid hq; have V1 := hid hb; clear hq hb) | (go_at_call 35; with_reducible refine (CM.out _ _ _ HQ1.out).mono ?_; rintro e v2 ⟨q2, d2, rfl, hq, hb⟩; have HQ2 := hid hq; have V2 := hid (btr V1.out hb); clear hq hb))
    obtain ⟨g, e, sg, a0, a1, a2, a3, a4⟩ := HQ2.out.cells HM0.out
    subst e
    rw [headD_at HM0.out] at a0 a1 a2 a3 a4
    rw [c0] at a1
    simp only [Nat.zero_mul, Nat.zero_add] at a0 a1 a2 a3 a4
    have HZ2 := hid (row_on HZ.out V2.out)
    have AI := hid (show (Tryz.prog.info? 57).map (·.size) = some (#[.int .i64 0, .int .u64 0, .int .u64 0, .int .i64 0, .int .i64 0] : Array Value).size from infoQ)
    have AS := hid (show (#[.int .i64 0, .int .u64 0, .int .u64 0, .int .i64 0, .int .i64 0] : Array Value).size = (#[.int .i64 0, .int .u64 0, .int .u64 0, .int .i64 0, .int .i64 0] : Array Value).size from rfl)
    have AA := hid (show (#[.int .i64 0, .int .u64 0, .int .u64 0, .int .i64 0, .int .i64 0] : Array Value).all (·.oneCell') = true from by simp [Value.oneCell'])
    go_wp2_with (refine wpList_store_row (by rfl) 57 (.tmp 2) (.tmp 13) (by rfl) R #[.int .i64 0, .int .u64 0, .int .u64 0, .int .i64 0, .int .i64 0] (by rfl) (by rfl) 57 _ HZ2.out AI.out AS.out AA.out ?_)
    refine bodyPost_ret (res_ct (fn := Tryz.f17) Tryz.results17 _ _ R 57 #[.int .i64 0, .int .u64 0, .int .u64 0, .int .i64 0, .int .i64 0] (0, 0) _ (.bool false) (by rfl) (by rfl) (setRow_heap _ _ _ _ 57 (0, 0) HZ2.out) Tryz.underlying57 rfl infoQ) rfl ⟨?_, ?_⟩
    · rw [HE.out]; rfl
    · exact setRow_below (btr HBW.out V2.out) (by have := HRR.out; omega)
  · have HE := hid (show quo r b s = some (dcd r L) by unfold quo; rw [HL.out, if_neg c0])
    have z0 : ((L.headD q0).vo == 0) = false := by simpa using c0
    obtain ⟨z, hz⟩ : ∃ z, L.headD q0 = z := ⟨_, rfl⟩
    have HHZ := hid hz
    rw [hz] at z0
    obtain ⟨y, hy⟩ : ∃ y, dcd r L = y := ⟨_, rfl⟩
    rw [hy] at CD HE
    unfold qrow at CD
    clear c0 hz hy
    go_enter Tryz.func17, Tryz.ntmps17
    go_upto_region 1 with fail
    rw [HW.out, HRR.out]
    go_upto_region 2 with (first | (go_at_call 36; with_reducible refine (CC.out).mono ?_; rintro e v1 ⟨q, d, rfl, hq, hb⟩; have HQ1 := hid hq; have V1 := hid hb; clear hq hb) | (go_at_call 35; with_reducible refine (CM.out _ _ _ HQ1.out).mono ?_; rintro e v2 ⟨q2, d2, rfl, hq, hb⟩; have HQ2 := hid hq; have V2 := hid (btr V1.out hb); clear hq hb))
    obtain ⟨g, e, sg, a0, a1, a2, a3, a4⟩ := HQ2.out.cells HM0.out
    subst e
    rw [headD_at HM0.out, HHZ.out] at a0 a1 a2 a3 a4
    simp only [Nat.zero_mul, Nat.zero_add] at a0 a1 a2 a3 a4
    obtain ⟨k0', k1, k2, k3⟩ := (HC.out.on (btr HBW.out V2.out)).cells
    have AI := hid (show (Tryz.prog.info? 57).map (·.size) = some (#[.int .i64 y.pr, .int .u64 y.vo, .int .u64 y.su, .int .i64 y.sd, .int .i64 y.ru] : Array Value).size from infoQ)
    have AS := hid (show (#[.int .i64 0, .int .u64 0, .int .u64 0, .int .i64 0, .int .i64 0] : Array Value).size = (#[.int .i64 y.pr, .int .u64 y.vo, .int .u64 y.su, .int .i64 y.sd, .int .i64 y.ru] : Array Value).size from rfl)
    have AA := hid (show (#[.int .i64 y.pr, .int .u64 y.vo, .int .u64 y.su, .int .i64 y.sd, .int .i64 y.ru] : Array Value).all (·.oneCell') = true from by simp [Value.oneCell'])
    go_wp2_with (first | (go_at_call 38; with_reducible refine (CD.out _ _ _ _ HQ2.out).mono ?_; rintro e v3 ⟨rfl, hb⟩; have V3 := hid (btr V2.out hb); have HZ3 := hid (row_on HZ.out (btr V2.out hb)); clear hb) | (refine wpList_store_row (by rfl) 57 (.tmp 2) (.tmp 19) (by rfl) R #[.int .i64 y.pr, .int .u64 y.vo, .int .u64 y.su, .int .i64 y.sd, .int .i64 y.ru] (by rfl) (by rfl) 57 _ HZ3.out AI.out AS.out AA.out ?_))
    refine bodyPost_ret (res_ct (fn := Tryz.f17) Tryz.results17 _ _ R 57 #[.int .i64 y.pr, .int .u64 y.vo, .int .u64 y.su, .int .i64 y.sd, .int .i64 y.ru] (0, 0) _ (.bool true) (by rfl) (by rfl) (setRow_heap _ _ _ _ 57 (0, 0) HZ3.out) Tryz.underlying57 rfl infoQ) rfl ⟨?_, ?_⟩
    · rw [HE.out]; rfl
    · exact setRow_below (btr HBW.out V3.out) (by have := HRR.out; omega)
theorem uncross_none (B : Nat) (r m : Int) (p1 : Option Addr) (c1 : Nat) (b : List It) (p2 : Option Addr) (c2 : Nat) (s : List It) (w : World) (h : Cl w B r m p1 c1 b p2 c2 s) (hq : quo r b s = none) :
    Calls Tryz.prog 19 #[.pointer (some ⟨B, 0, none⟩)] w fun e w' => e = .returned (.tuple #[.slice none 0 0, .agg #[.int .i64 0, .int .u64 0, .int .u64 0, .int .i64 0, .int .i64 0], .bool false]) ∧ Below w.heap.size w w' := by
  obtain ⟨R, hR⟩ : ∃ R, w.heap.size = R := ⟨_, rfl⟩
  have HRR := hid hR
  obtain ⟨W, hW⟩ : ∃ W, w.alloc (.cells #[.int .i64 0, .int .u64 0, .int .u64 0, .int .i64 0, .int .i64 0] 57) = W := ⟨_, rfl⟩
  have HBW := hid (show Below w.heap.size w W from by rw [← hW]; exact ball _ _)
  have HZ := hid (show W.heap[R]? = some (.cells #[.int .i64 0, .int .u64 0, .int .u64 0, .int .i64 0, .int .i64 0] 57 (0, 0)) from by rw [← hW, ← hR]; exact World.alloc_heap_new _ _)
  have HW := hid hW
  have CQ := hid (quote_any B r m p1 c1 b p2 c2 s W (h.on HBW.out))
  rw [hq] at CQ
  change Hid (Calls Tryz.prog 17 #[.pointer (some ⟨B, 0, none⟩)] W fun e w' => e = .returned (.tuple #[.agg #[.int .i64 0, .int .u64 0, .int .u64 0, .int .i64 0, .int .i64 0], .bool false]) ∧ Below W.heap.size W w') at CQ
  clear h hq hW hR
  go_enter Tryz.func19, Tryz.ntmps19
  go_upto_region 1 with fail
  rw [HW.out, HRR.out]
  go_upto_region 3 with (go_at_call 17; with_reducible refine (CQ.out).mono ?_; rintro e v1 ⟨rfl, hb⟩; have V1 := hid hb; clear hb)
  obtain ⟨X, hX⟩ : ∃ X, v1.alloc (.cells #[.int .i64 0, .int .u64 0, .int .u64 0, .int .i64 0, .int .i64 0] 57) = X := ⟨_, rfl⟩
  have BX := hid (show Below v1.heap.size v1 X from by rw [← hX]; exact ball _ _)
  have HZ1 := hid (row_on (row_on HZ.out V1.out) BX.out)
  rw [hX]
  clear hX
  have AI := hid (show (Tryz.prog.info? 57).map (·.size) = some (#[.int .i64 0, .int .u64 0, .int .u64 0, .int .i64 0, .int .i64 0] : Array Value).size from infoQ)
  have AS := hid (show (#[.int .i64 0, .int .u64 0, .int .u64 0, .int .i64 0, .int .i64 0] : Array Value).size = (#[.int .i64 0, .int .u64 0, .int .u64 0, .int .i64 0, .int .i64 0] : Array Value).size from rfl)
  have AA := hid (show (#[.int .i64 0, .int .u64 0, .int .u64 0, .int .i64 0, .int .i64 0] : Array Value).all (·.oneCell') = true from by simp [Value.oneCell'])
  go_wp2_with (refine wpList_store_row (by rfl) 57 (.tmp 3) (.tmp 14) (by rfl) R #[.int .i64 0, .int .u64 0, .int .u64 0, .int .i64 0, .int .i64 0] (by rfl) (by rfl) 57 _ HZ1.out AI.out AS.out AA.out ?_)
  refine bodyPost_ret (res_tct (fn := Tryz.f19) Tryz.results19 _ _ R 57 #[.int .i64 0, .int .u64 0, .int .u64 0, .int .i64 0, .int .i64 0] (0, 0) _ (.slice none 0 0) (.bool false) (by rfl) (by rfl) (by rfl) (setRow_heap _ _ _ _ 57 (0, 0) HZ1.out) Tryz.underlying57 rfl infoQ) rfl ⟨rfl, ?_⟩
  exact setRow_below (btr HBW.out (btr V1.out BX.out)) (by have := HRR.out; omega)
end Go.Proofs.YtnmkfdndfhefiaaGreat
