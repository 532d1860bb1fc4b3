/-
  ArenaLives: the walk, whole.
-/
import Derived.Test.YtecalelfofgfpaaArH
namespace Go.Proofs.Ytecalelfofgfpaa
open Go.RowKit Go.Deep Go.Maps
set_option linter.unusedVariables false
set_option linter.unusedSimpArgs false

theorem LvM.up {W : World} {A B room n : Nat} {T : List (Nat × Nat)} {F : List Nat} {s : ArS} {tv sv : Value} {nx : Nat} {w : World} (h : LvM W A B room n T F s tv sv nx w) : LvM W A B room (n + 1) T F s tv sv nx w := by
  refine ⟨h.ar, h.lv, h.ow, h.st, ?_, h.low, h.nx, h.bel⟩
  obtain ⟨D, ⟨es, clock, h1, h2, h4, h5⟩, h3⟩ := h.mp
  exact ⟨D, ⟨es, clock, h1, h2, Nat.le_succ_of_le h4, h5⟩, h3⟩
/-- behind a take, the stack and the next place as they will be. -/
structure LvQ (W : World) (A B room n : Nat) (f : Nat → Nat) (T : List (Nat × Nat)) (F' : List Nat) (s' : ArS) (tv sv : Value) (nx i lf : Nat) (w : World) : Prop where
  ar : Ar W.heap.size w A s'
  lv : Lv room s' (T ++ [(i, lf)]) F'
  ow : OwH W.heap.size w tv T
  st : OwU W.heap.size w sv (stk s' F')
  mp : Fm w B n f
  low : W.heap.size ≤ B
  nx : nx = s'.bs.length
  bel : Below W.heap.size W w
theorem LvQ.put {W : World} {A B room n : Nat} {f f' : Nat → Nat} {T : List (Nat × Nat)} {F' : List Nat} {s' : ArS} {tv sv : Value} {nx i lf : Nat} {w w' : World} (h : LvQ W A B room n f T F' s' tv sv nx i lf w) (hm : Fm w' B (n + 1) f') (hf : Fx MM W.heap.size w w') : LvQ W A B room (n + 1) f' T F' s' tv sv nx i lf w' :=
  ⟨hf.ar h.ar nAM, h.lv, hf.own h.ow (nMMc 34), hf.own h.st (nMMc 32), hm, h.low, h.nx, h.bel.trans hf.bel⟩
theorem LvQ.app {W : World} {A B room n : Nat} {T : List (Nat × Nat)} {F' : List Nat} {s' : ArS} {tv sv : Value} {nx i lf : Nat} {w w' : World} {v' : Value} (h : LvQ W A B room n (lifeAt s') T F' s' tv sv nx i lf w) (ho : OwH W.heap.size w' v' (T ++ [(i, lf)])) (hap : Ap W.heap.size tv w w') : LvM W A B room n (T ++ [(i, lf)]) F' s' v' sv nx w' := by
  have hf := hap.fx h.ow
  exact ⟨hf.ar h.ar nA34, h.lv, ho, hf.own h.st (nT 34 32 (by decide)), h.mp.fx hf (nTM 34), h.low, h.nx, h.bel.trans hf.bel⟩
theorem LvT.q {W : World} {A B room n : Nat} {T : List (Nat × Nat)} {F F' : List Nat} {s s' : ArS} {tv sv sv' : Value} {nx nx' i l lf : Nat} {w : World} (h : LvT W A B room n T F F' s s' tv sv nx i l w) (hlf : lf = (l + 1) % 4294967296) (hs : OwU W.heap.size w sv' (stk s' F')) (hn : nx' = s'.bs.length) : LvQ W A B room n (lifeAt s) T F' s' tv sv' nx' i lf w ∧ lifeAt s' = updN (lifeAt s) i lf := by
  subst hlf
  exact ⟨⟨h.ar, h.lv, h.ow, hs, h.mp, h.low, hn, h.bel⟩, h.lf⟩

set_option maxHeartbeats 4000000 in
set_option maxRecDepth 100000 in
theorem lives_walk (room : Int) (p : Option Addr) (cap : Nat) (xs : List Int) (W : World) (hV : Vs W p xs) (hn : xs.length ≤ maxLen) (hx : ∀ x ∈ xs, -9223372036854775808 ≤ x ∧ x < 9223372036854775808) :
    Calls Try.prog 7 #[.int .i64 room, .slice p xs.length cap] W fun e w' => e = .returned (.bool true) ∧ Below W.heap.size W w' := by
  by_cases hbad : room < 1 ∨ 65536 < room
  · have NB := hid (new_bad room W hbad)
    by_cases h1 : room < 1
    · clear hbad
      go_enter Try.func7, Try.ntmps7
      go_wp2_with (first | (go_at_call 13; refine (NB.out).mono ?_; rintro e w1 ⟨rfl, rfl⟩))
      go_ret
      exact ⟨rfl, Below.refl _ _⟩
    · have h2 : 65536 < room := by omega
      clear hbad
      go_enter Try.func7, Try.ntmps7
      go_wp2_with (first | (go_at_call 13; refine (NB.out).mono ?_; rintro e w1 ⟨rfl, rfl⟩))
      go_ret
      exact ⟨rfl, Below.refl _ _⟩
  obtain ⟨R, rfl⟩ : ∃ R : Nat, room = R := ⟨room.toNat, by omega⟩
  have r1 : 1 ≤ R := by omega
  have r2 : R ≤ 65536 := by omega
  have i1 : ¬ (R : Int) < 1 := by omega
  have i2 : ¬ 65536 < (R : Int) := by omega
  have NA := hid (new_any R W r1 r2)
  have HV := hid hV
  have HR1 := hid r1
  have HR2 := hid r2
  have HN := hid (show xs.length ≤ 9223372036854775807 from hn)
  have HXS := hid hx
  clear hV hbad r1 r2 hn hx
  have hmm := @run_makeMap Try.prog
  go_enter Try.func7, Try.ntmps7
  go_wp2_with (first | (go_at_call 13; refine (NA.out).mono ?_; rintro e w1 ⟨rfl, har, hb⟩; have HA := hid har; have HB0 := hid hb; clear har hb; refine Hid.out ?_))
  have HS := hid (show LvM W W.heap.size (w1.heap.size + 1) R 0 [] [] ⟨R, 0, [], nd0, none⟩ (.slice (some ⟨w1.heap.size, 0, none⟩) 0 0) (.slice (some ⟨w1.heap.size + 1 + 1, 0, none⟩) 0 0) 0 (((w1.alloc (.cells #[] 34)).alloc (.map #[] 0)).alloc (.cells #[] 32)) from by
    have b1 := ball w1 (.cells #[] 34)
    have b2 := ball (w1.alloc (.cells #[] 34)) (.map #[] 0)
    have b3 := ball ((w1.alloc (.cells #[] 34)).alloc (.map #[] 0)) (.cells #[] 32)
    have bb := btr (btr b1 b2) b3
    have e1 : w1.heap.size + 1 = (w1.alloc (.cells #[] 34)).heap.size := by simp
    have e2 : w1.heap.size + 1 + 1 = ((w1.alloc (.cells #[] 34)).alloc (.map #[] 0)).heap.size := by simp
    refine ⟨HA.out.on bb, ?_, ⟨rfl, Or.inr ⟨w1.heap.size, 0, #[], rfl, HB0.out.size, row_on (row_on (heap_alloc_new _ _) b2) b3, Nat.le_refl _, Nat.zero_le _, rfl, rfl⟩⟩, ⟨rfl, Or.inr ⟨w1.heap.size + 1 + 1, 0, #[], rfl, by have := HB0.out.size; omega, by rw [e2]; exact heap_alloc_new _ _, Nat.le_refl _, Nat.zero_le _, rfl, rfl⟩⟩, ?_, by have := HB0.out.size; omega, rfl, btrB HB0.out HB0.out.size bb⟩
    · exact ⟨rfl, rfl, List.nodup_nil, fun i l => by simp [ArS.at], trivial, List.nodup_nil, fun b hb => by simp at hb, rfl, fun b hb => by simp at hb, fun b hb => by simp at hb⟩
    · rw [e1]
      have h := (Fm.made (w1.alloc (.cells #[] 34))).on b3
      have e3 : lifeAt ⟨R, 0, [], nd0, none⟩ = fun _ => 0 := by funext i; simp [lifeAt]
      rw [e3]
      exact h)
  clear HA
  obtain ⟨B, hB⟩ : ∃ B, w1.heap.size + 1 = B := ⟨_, rfl⟩
  rw [hB] at HS
  refine hid ?_
  have HBB := hid hB
  clear hB
  go_wp2_with fail
  rw [HBB.out]
  go_loopw [7, 9, 10, 11] (fun tv sv nv iv wr => ∃ (k : Nat) (T : List (Nat × Nat)) (F : List Nat) (s : ArS) (nx : Nat), k ≤ xs.length ∧ iv = .int .i64 k ∧ nv = .int .u32 nx ∧ Hid (LvM W W.heap.size B R k T F s tv sv nx wr ∧ s.bs.length ≤ R ∧ T.length ≤ R)) (fun _ _ _ iv _ => xs.length - (intOf iv).toNat)
  case atStart => exact ⟨0, [], [], ⟨R, 0, [], nd0, none⟩, 0, Nat.zero_le _, rfl, rfl, hid ⟨by simpa [HBB.out] using HS.out, Nat.zero_le _, Nat.zero_le _⟩⟩
  case round =>
    obtain ⟨k, T, F, s, nx, hk, rfl, rfl, HL⟩ := hrel
    clear HS
    obtain ⟨tp, tc, rfl⟩ := HL.out.1.ow.form
    obtain ⟨sp, sc, hsv⟩ := HL.out.1.st.form
    obtain ⟨sn, hsn⟩ : ∃ sn, (stk s F).length = sn := ⟨_, rfl⟩
    rw [hsn] at hsv
    subst hsv
    have HSN := hid hsn.symm
    have HLE := hid (HL.out.2)
    clear hsn hmm
    by_cases hlt : k < xs.length
    · obtain ⟨vb, vo, rfl, hvb, hv⟩ := HV.out k hlt
      have hxb := HXS.out _ (List.getElem_mem hlt)
      obtain ⟨x, hx⟩ : ∃ x, xs[k] = x := ⟨_, rfl⟩
      rw [hx] at hv hxb
      have v0 : wr.cell? ⟨vb, vo + k, none⟩ = some (.int .i64 x) := (HL.out.1.bel.cell hvb).trans hv
      have i3 : (k : Int) < (xs.length : Int) := by omega
      have i4 : (0 : Int) ≤ (k : Int) := by omega
      have i5 : (k : Int) < 9223372036854775807 := by have := HN.out; omega
      have HLT := hid hlt
      have HV1 := hid hv
      have HVB := hid hvb
      have HXB := hid hxb
      clear hx hv hvb hlt hxb
      by_cases hx0 : 0 ≤ x
      · by_cases hfull : T.length = R
        · have LF := hid (HL.out.1.full HR2.out hfull (k : Int))
          have f1 : ((T.length : Int) != (R : Int)) = false := by simp; omega
          clear HL hfull
          go_wp2_with (first | (go_at_call 15; refine (LF.out).mono ?_; rintro e w1 ⟨rfl, h1⟩; have H1 := hid (h1.on (ball w1 (.cells #[.int .u32 0, .int .u32 0] 34))); clear h1; refine Hid.out ?_))
          refine hid ?_
          go_wp2
          go_roundw
          case rel => exact ⟨k + 1, T, F, s, nx, by have := HLT.out; omega, by go_num, rfl, hid ⟨H1.out.up, HLE.out.1, HLE.out.2⟩⟩
          case measure => have := HLT.out; simp [intOf]; omega
        · have TK := hid (HL.out.1.take HR2.out (by have := HLE.out.1; have := HR2.out; omega) (by have := HLE.out.2; omega) (k : Int))
          have HTL := hid (show T.length < R by have := HLE.out.2; omega)
          clear HL hfull
          go_wp2_with (first | (go_at_call 15; refine (TK.out).mono ?_; rintro e w1 ⟨i, l, lf, F', s', rfl, hlf, h1⟩; have H1 := hid (h1.on (ball w1 (.cells #[.int .u32 i, .int .u32 lf] 34))); have HLF := hid hlf; clear h1 hlf; refine Hid.out ?_))
          have lk : (Instr.lookup 65 (.map (some B)) (.int .u32 i) false).run Try.prog (w1.alloc (.cells #[.int .u32 i, .int .u32 lf] 34)) = .ok (.int .u32 l) (w1.alloc (.cells #[.int .u32 i, .int .u32 lf] 34)) := by
            have := H1.out.mp.look i (by have := H1.out.il; omega)
            rw [this, ← H1.out.hl]
          have wl : IntKind.u32.wrap ((l : Int) + 1) = (lf : Int) := by rw [HLF.out]; simp [IntKind.wrap, IntKind.bits, IntKind.signed]
          rcases H1.out.way with ⟨a1, a2⟩ | ⟨a1, a2, a3, a4⟩
          · obtain ⟨g, gc, hsv, hgc, gcell, hst⟩ := OwU.last (show OwU W.heap.size (w1.alloc (.cells #[.int .u32 i, .int .u32 lf] 34)) _ (stk s' F' ++ [i]) from by rw [← a1]; exact H1.out.st)
            have hsln : (stk s F).length = (stk s' F').length + 1 := by rw [a1]; simp
            obtain ⟨sl, hsl⟩ : ∃ sl, (stk s' F').length = sl := ⟨_, rfl⟩
            rw [hsl] at gcell hgc hst hsv hsln
            obtain ⟨rfl, hs2, rfl⟩ : sp = some ⟨g, 0, none⟩ ∧ sn = sl + 1 ∧ sc = gc := by simpa using hsv
            subst hs2
            have SVW := hid hst
            have NXW := hid (show nx = s'.bs.length from by rw [a2]; exact H1.out.nx)
            have HSM := hid (show s'.bs.length ≤ R from by rw [a2]; exact HLE.out.1)
            have j1 : (0 : Int) < ((sl + 1 : Nat) : Int) := by omega
            have j3 : (sl : Int) < (sc : Int) := by omega
            have j6 : (sl : Int) + 1 ≤ (sc : Int) := by omega
            have j4 : (sl : Int) ≤ 65536 := by
              have h1 := H1.out.lv.len
              have h2 := stk_len s' F'
              have h3 := HLE.out.1
              have h4 := HR2.out
              omega
            have j5 : (0 : Int) ≤ (sl : Int) := by omega
            clear a1 a2 hst hsl hsv hgc hsln
            refine hid ?_
            have H2 := hid (H1.out.q HLF.out SVW.out NXW.out)
            have HI := hid H1.out.il
            clear TK H1 SVW NXW
            go_wp2_with (first | (refine wpList_fm_put _ (by rfl) _ _ _ (by rfl) B k (lifeAt s) i lf (by rfl) (by rfl) (by rfl) H2.out.1.mp (by have := HLT.out; have := HN.out; omega) (by have := HI.out; omega) (by rw [HLF.out]; exact Nat.mod_lt _ (by decide)) W.heap.size H2.out.1.low ?_; intro w3 hm hf; have HM := hid hm; have HF := hid hf; clear hm hf; refine Hid.out ?_))
            have H3 := hid (show LvQ W W.heap.size B R (k + 1) (lifeAt s') T F' s' _ _ _ i lf w3 from by have := H2.out.1.put HM.out HF.out; rw [← H2.out.2] at this; exact this)
            have lk3 : (Instr.lookup 65 (.map (some B)) (.int .u32 i) false).run Try.prog w3 = .ok (.int .u32 lf) w3 := by
              have := HM.out.look i (by have := HI.out; omega)
              rw [this]; simp [updN]
            have z0 : w3.cell? ⟨w1.heap.size, 0, none⟩ = some (.int .u32 i) := row_cell (HF.out.obj _ _ (heap_alloc_new w1 (.cells #[.int .u32 i, .int .u32 lf] 34)) (nMMc 34 _)) 0
            have z1 : w3.cell? ⟨w1.heap.size, 1, none⟩ = some (.int .u32 lf) := row_cell (HF.out.obj _ _ (heap_alloc_new w1 (.cells #[.int .u32 i, .int .u32 lf] 34)) (nMMc 34 _)) 1
            clear lk H2 HM HF gcell
            refine hid ?_
            go_wp2_with (first | (at_builtin; refine own_h (by rfl) (.tmp 108) (.tmp 110) (by rfl) W.heap.size _ T (by rfl) w3 i lf H3.out.ow (by rfl) (by have := HLE.out; have := HR2.out; omega) H3.out.bel.size ?_; intro v' w7 ho hap; have H7 := hid (H3.out.app ho hap); clear ho hap; refine Hid.out ?_))
            refine hid ?_
            go_wp2
            go_roundw
            case rel => exact ⟨k + 1, _, _, _, _, by have := HLT.out; omega, by go_num, rfl, hid ⟨H7.out, by have h1 := H3.out.lv.len; have h2 := HTL.out; have h3 := HLE.out.1; have h4 := HSM.out; simp at h1; omega, by have := HTL.out; simp; omega⟩⟩
            case measure => have := HLT.out; simp [intOf]; omega
          · have hs0 : sn = 0 := by rw [HSN.out, a1]; rfl
            subst hs0
            have SVW := hid (show OwU W.heap.size (w1.alloc (.cells #[.int .u32 i, .int .u32 lf] 34)) (.slice sp 0 sc) (stk s' F') from by rw [a2, ← a1]; exact H1.out.st)
            have NXW := hid (show nx + 1 = s'.bs.length from by rw [a4, H1.out.nx])
            have HSM := hid (show s'.bs.length ≤ R from by
              have h1 := H1.out.lv.len
              have h2 := stk_len s' F'
              rw [a2] at h2
              have h3 := HTL.out
              simp at h1 h2
              omega)
            obtain rfl : i = nx := by rw [a3, H1.out.nx]
            have j4 : (i : Int) ≤ 65536 := by have := H1.out.il; omega
            have wn : IntKind.u32.wrap ((i : Int) + 1) = ((i + 1 : Nat) : Int) := by simp [IntKind.wrap, IntKind.bits, IntKind.signed]; omega
            clear a1 a2 a3 a4
            refine hid ?_
            have H2 := hid (H1.out.q HLF.out SVW.out NXW.out)
            have HI := hid H1.out.il
            clear TK H1 SVW NXW
            go_wp2_with (first | (refine wpList_fm_put _ (by rfl) _ _ _ (by rfl) B k (lifeAt s) i lf (by rfl) (by rfl) (by rfl) H2.out.1.mp (by have := HLT.out; have := HN.out; omega) (by have := HI.out; omega) (by rw [HLF.out]; exact Nat.mod_lt _ (by decide)) W.heap.size H2.out.1.low ?_; intro w3 hm hf; have HM := hid hm; have HF := hid hf; clear hm hf; refine Hid.out ?_))
            have H3 := hid (show LvQ W W.heap.size B R (k + 1) (lifeAt s') T F' s' _ _ _ i lf w3 from by have := H2.out.1.put HM.out HF.out; rw [← H2.out.2] at this; exact this)
            have lk3 : (Instr.lookup 65 (.map (some B)) (.int .u32 i) false).run Try.prog w3 = .ok (.int .u32 lf) w3 := by
              have := HM.out.look i (by have := HI.out; omega)
              rw [this]; simp [updN]
            have z0 : w3.cell? ⟨w1.heap.size, 0, none⟩ = some (.int .u32 i) := row_cell (HF.out.obj _ _ (heap_alloc_new w1 (.cells #[.int .u32 i, .int .u32 lf] 34)) (nMMc 34 _)) 0
            have z1 : w3.cell? ⟨w1.heap.size, 1, none⟩ = some (.int .u32 lf) := row_cell (HF.out.obj _ _ (heap_alloc_new w1 (.cells #[.int .u32 i, .int .u32 lf] 34)) (nMMc 34 _)) 1
            clear lk H2 HM HF wn
            refine hid ?_
            go_wp2_with (first | (at_builtin; refine own_h (by rfl) (.tmp 108) (.tmp 110) (by rfl) W.heap.size _ T (by rfl) w3 i lf H3.out.ow (by rfl) (by have := HLE.out; have := HR2.out; omega) H3.out.bel.size ?_; intro v' w7 ho hap; have H7 := hid (H3.out.app ho hap); clear ho hap; refine Hid.out ?_))
            refine hid ?_
            go_wp2
            go_roundw
            case rel => exact ⟨k + 1, _, _, _, _, by have := HLT.out; omega, by go_num, by first | rfl | simp, hid ⟨H7.out, by have h1 := H3.out.lv.len; have h2 := HTL.out; have h3 := HLE.out.1; have h4 := HSM.out; simp at h1; omega, by have := HTL.out; simp; omega⟩⟩
            case measure => have := HLT.out; simp [intOf]; omega
      · by_cases ht0 : T.length = 0
        · have ht1 : ((T.length : Int) == 0) = true := by rw [ht0]; rfl
          have HT0 := hid ht0
          clear ht0
          by_cases hfull : T.length = R
          · have LF := hid (HL.out.1.full HR2.out hfull (k : Int))
            have f1 : ((T.length : Int) != (R : Int)) = false := by simp; omega
            clear HL hfull
            go_wp2_with (first | (go_at_call 15; refine (LF.out).mono ?_; rintro e w1 ⟨rfl, h1⟩; have H1 := hid (h1.on (ball w1 (.cells #[.int .u32 0, .int .u32 0] 34))); clear h1; refine Hid.out ?_))
            refine hid ?_
            go_wp2
            go_roundw
            case rel => exact ⟨k + 1, T, F, s, nx, by have := HLT.out; omega, by go_num, rfl, hid ⟨H1.out.up, HLE.out.1, HLE.out.2⟩⟩
            case measure => have := HLT.out; simp [intOf]; omega
          · have TK := hid (HL.out.1.take HR2.out (by have := HLE.out.1; have := HR2.out; omega) (by have := HLE.out.2; omega) (k : Int))
            have HTL := hid (show T.length < R by have := HLE.out.2; omega)
            clear HL hfull
            go_wp2_with (first | (go_at_call 15; refine (TK.out).mono ?_; rintro e w1 ⟨i, l, lf, F', s', rfl, hlf, h1⟩; have H1 := hid (h1.on (ball w1 (.cells #[.int .u32 i, .int .u32 lf] 34))); have HLF := hid hlf; clear h1 hlf; refine Hid.out ?_))
            have lk : (Instr.lookup 65 (.map (some B)) (.int .u32 i) false).run Try.prog (w1.alloc (.cells #[.int .u32 i, .int .u32 lf] 34)) = .ok (.int .u32 l) (w1.alloc (.cells #[.int .u32 i, .int .u32 lf] 34)) := by
              have := H1.out.mp.look i (by have := H1.out.il; omega)
              rw [this, ← H1.out.hl]
            have wl : IntKind.u32.wrap ((l : Int) + 1) = (lf : Int) := by rw [HLF.out]; simp [IntKind.wrap, IntKind.bits, IntKind.signed]
            rcases H1.out.way with ⟨a1, a2⟩ | ⟨a1, a2, a3, a4⟩
            · obtain ⟨g, gc, hsv, hgc, gcell, hst⟩ := OwU.last (show OwU W.heap.size (w1.alloc (.cells #[.int .u32 i, .int .u32 lf] 34)) _ (stk s' F' ++ [i]) from by rw [← a1]; exact H1.out.st)
              have hsln : (stk s F).length = (stk s' F').length + 1 := by rw [a1]; simp
              obtain ⟨sl, hsl⟩ : ∃ sl, (stk s' F').length = sl := ⟨_, rfl⟩
              rw [hsl] at gcell hgc hst hsv hsln
              obtain ⟨rfl, hs2, rfl⟩ : sp = some ⟨g, 0, none⟩ ∧ sn = sl + 1 ∧ sc = gc := by simpa using hsv
              subst hs2
              have SVW := hid hst
              have NXW := hid (show nx = s'.bs.length from by rw [a2]; exact H1.out.nx)
              have HSM := hid (show s'.bs.length ≤ R from by rw [a2]; exact HLE.out.1)
              have j1 : (0 : Int) < ((sl + 1 : Nat) : Int) := by omega
              have j3 : (sl : Int) < (sc : Int) := by omega
              have j6 : (sl : Int) + 1 ≤ (sc : Int) := by omega
              have j4 : (sl : Int) ≤ 65536 := by
                have h1 := H1.out.lv.len
                have h2 := stk_len s' F'
                have h3 := HLE.out.1
                have h4 := HR2.out
                omega
              have j5 : (0 : Int) ≤ (sl : Int) := by omega
              clear a1 a2 hst hsl hsv hgc hsln
              refine hid ?_
              have H2 := hid (H1.out.q HLF.out SVW.out NXW.out)
              have HI := hid H1.out.il
              clear TK H1 SVW NXW
              go_wp2_with (first | (refine wpList_fm_put _ (by rfl) _ _ _ (by rfl) B k (lifeAt s) i lf (by rfl) (by rfl) (by rfl) H2.out.1.mp (by have := HLT.out; have := HN.out; omega) (by have := HI.out; omega) (by rw [HLF.out]; exact Nat.mod_lt _ (by decide)) W.heap.size H2.out.1.low ?_; intro w3 hm hf; have HM := hid hm; have HF := hid hf; clear hm hf; refine Hid.out ?_))
              have H3 := hid (show LvQ W W.heap.size B R (k + 1) (lifeAt s') T F' s' _ _ _ i lf w3 from by have := H2.out.1.put HM.out HF.out; rw [← H2.out.2] at this; exact this)
              have lk3 : (Instr.lookup 65 (.map (some B)) (.int .u32 i) false).run Try.prog w3 = .ok (.int .u32 lf) w3 := by
                have := HM.out.look i (by have := HI.out; omega)
                rw [this]; simp [updN]
              have z0 : w3.cell? ⟨w1.heap.size, 0, none⟩ = some (.int .u32 i) := row_cell (HF.out.obj _ _ (heap_alloc_new w1 (.cells #[.int .u32 i, .int .u32 lf] 34)) (nMMc 34 _)) 0
              have z1 : w3.cell? ⟨w1.heap.size, 1, none⟩ = some (.int .u32 lf) := row_cell (HF.out.obj _ _ (heap_alloc_new w1 (.cells #[.int .u32 i, .int .u32 lf] 34)) (nMMc 34 _)) 1
              clear lk H2 HM HF gcell
              refine hid ?_
              go_wp2_with (first | (at_builtin; refine own_h (by rfl) (.tmp 108) (.tmp 110) (by rfl) W.heap.size _ T (by rfl) w3 i lf H3.out.ow (by rfl) (by have := HLE.out; have := HR2.out; omega) H3.out.bel.size ?_; intro v' w7 ho hap; have H7 := hid (H3.out.app ho hap); clear ho hap; refine Hid.out ?_))
              refine hid ?_
              go_wp2
              go_roundw
              case rel => exact ⟨k + 1, _, _, _, _, by have := HLT.out; omega, by go_num, rfl, hid ⟨H7.out, by have h1 := H3.out.lv.len; have h2 := HTL.out; have h3 := HLE.out.1; have h4 := HSM.out; simp at h1; omega, by have := HTL.out; simp; omega⟩⟩
              case measure => have := HLT.out; simp [intOf]; omega
            · have hs0 : sn = 0 := by rw [HSN.out, a1]; rfl
              subst hs0
              have SVW := hid (show OwU W.heap.size (w1.alloc (.cells #[.int .u32 i, .int .u32 lf] 34)) (.slice sp 0 sc) (stk s' F') from by rw [a2, ← a1]; exact H1.out.st)
              have NXW := hid (show nx + 1 = s'.bs.length from by rw [a4, H1.out.nx])
              have HSM := hid (show s'.bs.length ≤ R from by
                have h1 := H1.out.lv.len
                have h2 := stk_len s' F'
                rw [a2] at h2
                have h3 := HTL.out
                simp at h1 h2
                omega)
              obtain rfl : i = nx := by rw [a3, H1.out.nx]
              have j4 : (i : Int) ≤ 65536 := by have := H1.out.il; omega
              have wn : IntKind.u32.wrap ((i : Int) + 1) = ((i + 1 : Nat) : Int) := by simp [IntKind.wrap, IntKind.bits, IntKind.signed]; omega
              clear a1 a2 a3 a4
              refine hid ?_
              have H2 := hid (H1.out.q HLF.out SVW.out NXW.out)
              have HI := hid H1.out.il
              clear TK H1 SVW NXW
              go_wp2_with (first | (refine wpList_fm_put _ (by rfl) _ _ _ (by rfl) B k (lifeAt s) i lf (by rfl) (by rfl) (by rfl) H2.out.1.mp (by have := HLT.out; have := HN.out; omega) (by have := HI.out; omega) (by rw [HLF.out]; exact Nat.mod_lt _ (by decide)) W.heap.size H2.out.1.low ?_; intro w3 hm hf; have HM := hid hm; have HF := hid hf; clear hm hf; refine Hid.out ?_))
              have H3 := hid (show LvQ W W.heap.size B R (k + 1) (lifeAt s') T F' s' _ _ _ i lf w3 from by have := H2.out.1.put HM.out HF.out; rw [← H2.out.2] at this; exact this)
              have lk3 : (Instr.lookup 65 (.map (some B)) (.int .u32 i) false).run Try.prog w3 = .ok (.int .u32 lf) w3 := by
                have := HM.out.look i (by have := HI.out; omega)
                rw [this]; simp [updN]
              have z0 : w3.cell? ⟨w1.heap.size, 0, none⟩ = some (.int .u32 i) := row_cell (HF.out.obj _ _ (heap_alloc_new w1 (.cells #[.int .u32 i, .int .u32 lf] 34)) (nMMc 34 _)) 0
              have z1 : w3.cell? ⟨w1.heap.size, 1, none⟩ = some (.int .u32 lf) := row_cell (HF.out.obj _ _ (heap_alloc_new w1 (.cells #[.int .u32 i, .int .u32 lf] 34)) (nMMc 34 _)) 1
              clear lk H2 HM HF wn
              refine hid ?_
              go_wp2_with (first | (at_builtin; refine own_h (by rfl) (.tmp 108) (.tmp 110) (by rfl) W.heap.size _ T (by rfl) w3 i lf H3.out.ow (by rfl) (by have := HLE.out; have := HR2.out; omega) H3.out.bel.size ?_; intro v' w7 ho hap; have H7 := hid (H3.out.app ho hap); clear ho hap; refine Hid.out ?_))
              refine hid ?_
              go_wp2
              go_roundw
              case rel => exact ⟨k + 1, _, _, _, _, by have := HLT.out; omega, by go_num, by first | rfl | simp, hid ⟨H7.out, by have h1 := H3.out.lv.len; have h2 := HTL.out; have h3 := HLE.out.1; have h4 := HSM.out; simp at h1; omega, by have := HTL.out; simp; omega⟩⟩
              case measure => have := HLT.out; simp [intOf]; omega
        · have ht1 : ((T.length : Int) == 0) = false := beq_eq_false_iff_ne.2 (by omega)
          obtain ⟨m, hm⟩ : ∃ m : Nat, (m : Int) = -(x + 1) := ⟨(-(x + 1)).toNat, by omega⟩
          obtain ⟨kk, hkk⟩ : ∃ kk, m % T.length = kk := ⟨_, rfl⟩
          have hkl : kk < T.length := by rw [← hkk]; exact Nat.mod_lt _ (by omega)
          have m1 : IntKind.i64.wrap (x + 1) = x + 1 := by rw [IntKind.wrap_i64]; have := HXB.out; omega
          have m2 : IntKind.i64.wrap (-(x + 1)) = (m : Int) := by rw [← hm, IntKind.wrap_i64]; have := HXB.out; omega
          have m3 : (m : Int).tmod (T.length : Int) = (kk : Int) := by rw [← hkk]; rfl
          have m4 : ¬ (T.length : Int) = 0 := by omega
          have m5 : (kk : Int) < (T.length : Int) := by omega
          have m6 : (0 : Int) ≤ (kk : Int) := by omega
          obtain ⟨g, gc, eg, hg, q0, q1⟩ := HL.out.1.ow.at kk hkl
          obtain ⟨rfl, rfl⟩ : tp = some ⟨g, 0, none⟩ ∧ tc = gc := by simpa using eg
          have hmem := List.getElem_mem hkl
          obtain ⟨i, hi⟩ : ∃ i, T[kk].1 = i := ⟨_, rfl⟩
          obtain ⟨l, hl⟩ : ∃ l, T[kk].2 = l := ⟨_, rfl⟩
          have hmem2 : (i, l) ∈ T := by rw [← hi, ← hl]; exact hmem
          rw [hi] at q0
          rw [hl] at q1
          have WO := hid (without_any (own_on HL.out.1.ow (ball wr (.cells #[.int .u32 i, .int .u32 l] 34))) (by have := HLE.out.2; have := HR2.out; omega) i l)
          have HTL := hid (show T.length ≤ R from HLE.out.2)
          have HMEM := hid hmem2
          clear eg hmem hi hl hmem2 hkk hm hkl ht0 hg
          go_wp2_with (first | (go_at_call 27; refine (WO.out).mono ?_; rintro e w2 ⟨v', rfl, ho, hb⟩; have H2 := hid ((HL.out.1.on (ball wr (.cells #[.int .u32 i, .int .u32 l] 34))).on hb); have HO := hid (own_low ho (Nat.le_trans HL.out.1.bel.size (ball wr _).size)); have HX := hid (row_on (heap_alloc_new wr (.cells #[.int .u32 i, .int .u32 l] 34)) hb); clear ho hb; refine Hid.out ?_))
          have x0 : w2.cell? ⟨wr.heap.size, 0, none⟩ = some (.int .u32 i) := row_cell HX.out 0
          have x1 : w2.cell? ⟨wr.heap.size, 1, none⟩ = some (.int .u32 l) := row_cell HX.out 1
          have DR := hid (H2.out.drop HR2.out (by have := HLE.out.1; have := HR2.out; omega) i l HMEM.out HTL.out HO.out)
          clear WO q0 q1 v0 HL
          refine hid ?_
          go_wp2_with (first | (go_at_call 21; refine (DR.out).mono ?_; rintro e w3 ⟨F', s', rfl, hk3, hst, hsk, har, hlv, how, hmp, hlen⟩; refine Hid.out ?_))
          have y0 : w3.cell? ⟨wr.heap.size, 0, none⟩ = some (.int .u32 i) := row_cell (hk3.blk _ _ _ HX.out n34) 0
          have HST := hid (show OwU W.heap.size w3 (.slice sp sn sc) (stk s F) from hst)
          have HSK := hid hsk
          have HB3 := hid (H2.out.bel.trans hk3.bel)
          have H4 := hid (show Ar W.heap.size w3 W.heap.size s' ∧ Lv R s' (wout T i l) F' ∧ OwH W.heap.size w3 v' (wout T i l) ∧ Fm w3 B k (lifeAt s') ∧ s'.bs.length = s.bs.length from ⟨har, hlv, how, hmp, hlen⟩)
          have HLOW := hid H2.out.low
          have HNX := hid H2.out.nx
          clear hk3 hst hsk har hlv how hmp hlen x0 x1 DR H2 HO HX
          refine hid ?_
          go_wp2_with (first | (at_builtin; refine own_u (by rfl) (.tmp 132) (.tmp 135) (by rfl) W.heap.size (.slice sp sn sc) (stk s F) (by rfl) w3 i HST.out (by rfl) (by have h1 := HSN.out; have h2 := H4.out.2.1.len; have h3 := congrArg List.length HSK.out; have h4 := HLE.out.1; have h5 := HR2.out; have h6 := H4.out.2.2.2.2; rw [stk_len] at h3; simp at h3; omega) HB3.out.size ?_; intro v2 w7 ho hap; have HO7 := hid ho; have HAP := hid (hap.fx HST.out); clear ho hap; refine Hid.out ?_))
          have H7 := hid (show LvM W W.heap.size B R (k + 1) (wout T i l) F' s' v' v2 nx w7 from LvM.up ⟨HAP.out.ar H4.out.1 nA32, H4.out.2.1, HAP.out.own H4.out.2.2.1 (nT 32 34 (by decide)), by rw [HSK.out]; exact HO7.out, H4.out.2.2.2.1.fx HAP.out (nTM 32), HLOW.out, by rw [H4.out.2.2.2.2]; exact HNX.out, HB3.out.trans HAP.out.bel⟩)
          refine hid ?_
          go_wp2
          go_roundw
          case rel => exact ⟨k + 1, _, _, _, _, by have := HLT.out; omega, by go_num, rfl, hid ⟨H7.out, by rw [H4.out.2.2.2.2]; exact HLE.out.1, Nat.le_trans (wout_len _ _ _) HTL.out⟩⟩
          case measure => have := HLT.out; simp [intOf]; omega
    · obtain rfl : k = xs.length := by omega
      have LN := hid (len_any HL.out.1.ar)
      have HTK := hid HL.out.1.lv.tk
      have HBL := hid HL.out.1.bel
      clear hlt HL
      rw [HTK.out] at LN
      go_wp2_with (first | (go_at_call 19; refine (LN.out).mono ?_; rintro e w9 ⟨rfl, rfl⟩))
      go_ret
      exact ⟨by simp, HBL.out⟩
end Go.Proofs.Ytecalelfofgfpaa
