/-
  dropped. Written by mkh.py.
-/
import Derived.Test.YtldpkmegofncfaaAvG
namespace Go.Proofs.Ytldpkmegofncfaa
open Go.RowKit Go.Deep
set_option linter.unusedVariables false
set_option linter.unusedSimpArgs false
theorem pa_new (w : World) : Pa (w.alloc (.cells #[.pointer none, .pointer none, .pointer none, .pointer none, .pointer none, .pointer none, .pointer none, .pointer none, .pointer none, .pointer none, .pointer none, .pointer none, .pointer none, .pointer none, .pointer none, .pointer none, .pointer none, .pointer none, .pointer none, .pointer none, .pointer none, .pointer none, .pointer none, .pointer none, .pointer none, .pointer none, .pointer none, .pointer none, .pointer none, .pointer none, .pointer none, .pointer none, .pointer none, .pointer none, .pointer none, .pointer none, .pointer none, .pointer none, .pointer none, .pointer none, .pointer none, .pointer none, .pointer none, .pointer none, .int .i64 0] 60)) w.heap.size [] :=
  ⟨⟨_, heap_alloc_new _ _, rfl, rfl, fun i h => by simp at h⟩, by simp⟩
/-- a way down in a new block. -/
theorem down_new {w : World} {t : T} {p : Option Nat} {z : Option Addr} (hz : pa p = z) (h : Tr w t p) (hh : t.h ≤ 44) (key : Int) (P : Nat) (hPP : w.heap.size ≤ P) : ∀ w1, Pa w1 P [] → Below w.heap.size w w1 →
    Calls Try.prog 37 #[.pointer (some ⟨P, 0, none⟩), .pointer z, .int .i64 key] w1 fun e w' => ∃ q bs, e = .returned (.pointer (pa q)) ∧ Tr w' (t.find key) q ∧ Pa w' P bs ∧ Ws w' (t.way key) bs ∧ Below w.heap.size w w' ∧ Ko P w1 w' := by
  subst hz
  intro w1 hP hb
  refine (down_any hP (h.on hb) hh key).mono ?_
  rintro e w' ⟨q, bs, rfl, h1, h2, h3, h4⟩
  exact ⟨q, bs, rfl, h1, h2, h3, Ko.below hb h4 hPP hb.size, h4⟩
/-- a way up that was gone down. -/
theorem up_q {w0 w : World} {P : Nat} {u : T} {p : Option Nat} {z : Option Addr} {t : T} {bs : List Nat} (f : T → T) (hz : pa p = z) (hP : Pa w P bs) (key : Int) (hW : Ws w (t.way key) bs) (h : Tr w u p) (hu : u = f (t.find key)) (hh : t.h ≤ 44) (hb : 45 * t.n + u.n < 2 ^ 59) (h0 : Below w0.heap.size w0 w) (hPP : w0.heap.size ≤ P) :
    Calls Try.prog 38 #[.pointer (some ⟨P, 0, none⟩), .int .i64 key, .pointer z] w fun e w' => ∃ q, e = .returned (.pointer (pa q)) ∧ Tr w' (t.repl key f) q ∧ Below w0.heap.size w0 w' ∧ Ko P w w' := by
  subst hz
  have h1 := T.way_sum key t
  have h2 : t.h * t.n ≤ 44 * t.n := Nat.mul_le_mul_right _ hh
  refine (up_any hP hW h key (by omega)).mono ?_
  rintro e w' ⟨q, rfl, h3, h4⟩
  rw [hu, T.ups_way] at h3
  exact ⟨q, rfl, h3, Ko.below h0 h4 hPP h0.size, h4⟩
set_option maxHeartbeats 4000000 in
set_option maxRecDepth 100000 in
theorem dropped_any {w : World} {k v : Int} {l r : T} {b : Nat} (h : Tr w (T.nd k v l r) (some b)) (hs : r.so) (hh : r.h ≤ 44) (hn : 50 * (T.nd k v l r).n < 2 ^ 58) :
    Calls Try.prog 42 #[.pointer (some ⟨b, 0, none⟩)] w fun e w' => ∃ q, e = .returned (.pointer (pa q)) ∧ Tr w' (T.nd k v l r).dropped q ∧ Below w.heap.size w w' := by
  have HT := hid h
  have hlb := h.lt
  obtain ⟨pl, pr, -, hl, hr, c0, c1, c2, c3⟩ := h.cells
  obtain ⟨zl, hzl⟩ : ∃ z, pa pl = z := ⟨_, rfl⟩
  obtain ⟨zr, hzr⟩ : ∃ z, pa pr = z := ⟨_, rfl⟩
  have OU := hid (show Calls Try.prog 46 #[.pointer zr, .int .i64 0] w fun e w' => ∃ q, e = .returned (.pointer (pa q)) ∧ Tr w r.outL q ∧ w' = w from by rw [← hzr]; exact out0 hr)
  rw [hzl] at c2
  rw [hzr] at c3
  cases r with
  | nil =>
    have HL := hid (And.intro hl hzl)
    clear hl hr hzl hzr h hs hh hn
    go_enter Try.func42, Try.ntmps42
    go_wp2_with (first | (go_at_call 46; with_reducible refine (OU.out).mono ?_; rintro e w9 ⟨q, rfl, hq, rfl⟩; obtain rfl := hq.ofNil; simp only [pa]))
    go_ret
    exact ⟨pl, by rw [HL.out.2]; rfl, HL.out.1, Below.refl _ _⟩
  | nd ck cv cl cr =>
    obtain ⟨nk, nv, nr, rest, o1, o2, o3⟩ := T.outL_spec hs (by simp)
    generalize hrr : T.nd ck cv cl cr = r at *
    have ED := hid (show (T.nd k v l r).dropped = (T.nd nk nv l (r.repl nk (fun _ => nr))).bal from by
      show (match r.outL with | .nil => l | .nd nk nv _ nr => (T.nd nk nv l (r.repl nk (fun _ => nr))).bal) = _; rw [o1])
    rw [o1] at OU
    have hnr : nr.n ≤ r.n := by
      have := T.find_n nk r
      rw [o2] at this
      simp only [T.n] at this; omega
    have hnn : (T.nd k v l r).n = 1 + l.n + r.n := rfl
    have hrep : (r.repl nk (fun _ => nr)).n ≤ r.n := by
      obtain ⟨A, C, p1, p2, _, _⟩ := T.repl_toL (key := nk) (f := fun _ => nr) hs
      rw [← T.toL_len, ← T.toL_len r, p2, p1, o2]
      simp [T.toL]
    have DN := hid (down_new hzr hr hh nk w.heap.size (Nat.le_refl _))
    have HR := hid hr
    have HS := hid hs
    have HH := hid hh
    have HN := hid (And.intro hn (And.intro hnr (And.intro hnn hrep)))
    have HO2 := hid o2
    have HLB := hid hlb
    have C3 := hid c3
    clear hl hr hzl hzr h hs hh hn hnr hnn hrep o1 o2 o3 hrr c0 c1 c2 hlb
    go_enter Try.func42, Try.ntmps42
    go_wp2_with (first | (go_at_call 46; with_reducible refine (OU.out).mono ?_; rintro e w9 ⟨q, rfl, hq, rfl⟩; obtain ⟨bn, rfl⟩ := hq.ofNd; simp only [pa]; refine Hid.out ?_))
    have hlbn := hq.lt
    obtain ⟨pz, pnr, -, -, hnr, d0, d1, -, d3⟩ := hq.cells
    obtain ⟨zn, hzn⟩ : ∃ z, pa pnr = z := ⟨_, rfl⟩
    rw [hzn] at d3
    have HZN := hid hzn
    have HNR := hid hnr
    have HD := hid (And.intro d0 (And.intro d1 d3))
    have HLBN := hid hlbn
    clear OU hzn hnr hq
    have s3 : (w9.alloc (.cells #[.pointer none, .pointer none, .pointer none, .pointer none, .pointer none, .pointer none, .pointer none, .pointer none, .pointer none, .pointer none, .pointer none, .pointer none, .pointer none, .pointer none, .pointer none, .pointer none, .pointer none, .pointer none, .pointer none, .pointer none, .pointer none, .pointer none, .pointer none, .pointer none, .pointer none, .pointer none, .pointer none, .pointer none, .pointer none, .pointer none, .pointer none, .pointer none, .pointer none, .pointer none, .pointer none, .pointer none, .pointer none, .pointer none, .pointer none, .pointer none, .pointer none, .pointer none, .pointer none, .pointer none, .int .i64 0] 60)).drew.cell? ⟨b, 3, none⟩ = some (.pointer zr) := cell_on c3 (bdrew (ball _ _)) HLB.out
    have s0 : (w9.alloc (.cells #[.pointer none, .pointer none, .pointer none, .pointer none, .pointer none, .pointer none, .pointer none, .pointer none, .pointer none, .pointer none, .pointer none, .pointer none, .pointer none, .pointer none, .pointer none, .pointer none, .pointer none, .pointer none, .pointer none, .pointer none, .pointer none, .pointer none, .pointer none, .pointer none, .pointer none, .pointer none, .pointer none, .pointer none, .pointer none, .pointer none, .pointer none, .pointer none, .pointer none, .pointer none, .pointer none, .pointer none, .pointer none, .pointer none, .pointer none, .pointer none, .pointer none, .pointer none, .pointer none, .pointer none, .int .i64 0] 60)).drew.cell? ⟨bn, 0, none⟩ = some (.int .i64 nk) := cell_on d0 (bdrew (ball _ _)) hlbn
    refine hid ?_
    go_wp2_with fail
    rename_i K A
    have HK := hid A
    clear A
    go_region_held3 (fun w' => w'.cell? ⟨b, 3, none⟩ = some (.pointer zr) ∧ w'.cell? ⟨bn, 0, none⟩ = some (.int .i64 nk)) (go_keep) (first | (go_at_call 37; with_reducible refine (DN.out _ (pa_new w9).drew (bdrew (ball _ _))).mono ?_; rintro e w2 ⟨q2, bs, rfl, t2, p2, ws2, bl2, ko2⟩; have HT2 := hid t2; have HP2 := hid p2; have HW2 := hid ws2; have HB2 := hid bl2; have e3 := cell_on C3.out bl2 HLB.out; have e0 := cell_on HD.out.1 bl2 HLBN.out; clear t2 p2 ws2 bl2 ko2))
    refine HK.out _ _ ?_
    clear HK DN s3 s0 e3 e0 c3
    have HB2d := hid (bdrew HB2.out)
    have r0 := cell_on HD.out.1 HB2d.out HLBN.out
    have r3 := cell_on HD.out.2.2 HB2d.out HLBN.out
    have UP := hid (up_q (w0 := w9) (fun _ => nr) HZN.out HP2.out.drew nk (HW2.out.same (fun t c ht => ht.on (below_drews (b := w2.drew) rfl rfl rfl rfl))) (HNR.out.on HB2d.out) rfl HH.out (by have := HN.out; omega) HB2d.out (Nat.le_refl _))
    go_wp2_with fail
    rename_i K A
    have HK := hid A
    clear A
    go_region_held3 (fun w' => w'.cell? ⟨bn, 0, none⟩ = some (.int .i64 nk) ∧ w'.cell? ⟨bn, 3, none⟩ = some (.pointer zn)) (go_keep) (first | (go_at_call 38; with_reducible refine (UP.out).mono ?_; rintro e w3 ⟨q3, rfl, t3, bl3, ko3⟩; have HT3 := hid t3; have HB3 := hid bl3; have e3 := cell_on HD.out.2.2 bl3 HLBN.out; have e0 := cell_on HD.out.1 bl3 HLBN.out; clear t3 bl3 ko3))
    refine HK.out _ _ ?_
    clear HK UP r0 r3 e3 e0 HB2d
    have HB3d := hid (bdrew HB3.out)
    have r0 := cell_on HD.out.1 HB3d.out HLBN.out
    have r1 := cell_on HD.out.2.1 HB3d.out HLBN.out
    obtain ⟨z3, hz3⟩ : ∃ z, pa q3 = z := ⟨_, rfl⟩
    have HO := hid (holding_any (HT.out.on HB3d.out) nk nv)
    have WI := hid (show ∀ b4 w4, Below w3.drew.heap.size w3.drew w4 → Tr w4 (.nd nk nv l r) (some b4) → Calls Try.prog 51 #[.pointer (some ⟨b4, 0, none⟩), .int .i64 1, .pointer z3] w4 fun e w' => ∃ b, e = .returned (.pointer (some ⟨b, 0, none⟩)) ∧ Tr w' (.nd nk nv l (r.repl nk (fun _ => nr))) (some b) ∧ Below w4.heap.size w4 w' from by
      intro b4 w4 hb4 ht4
      have := with1 ht4 ((HT3.out.on (below_drews (b := w3.drew) rfl rfl rfl rfl)).on hb4) (by have := HN.out; omega)
      rw [pb, pb, hz3] at this
      exact this)
    have FL := hid (show ∀ b2 w2, Tr w2 (.nd nk nv l (r.repl nk (fun _ => nr))) (some b2) → Calls Try.prog 52 #[.pointer (some ⟨b2, 0, none⟩)] w2 fun e w' => ∃ b', e = .returned (.pointer (some ⟨b', 0, none⟩)) ∧ Tr w' (T.nd nk nv l (r.repl nk (fun _ => nr))).bal (some b') ∧ Below w2.heap.size w2 w' from fun b2 w2 ht => flat_any ht (by have := HN.out; simp only [T.n] at this ⊢; omega))
    simp only [pb, pa] at HO
    rw [hz3]
    clear hz3
    go_wp2_with fail
    rename_i K A
    have HK := hid A
    clear A
    go_region_held3 (fun w' => w'.cell? ⟨bn, 0, none⟩ = some (.int .i64 nk) ∧ w'.cell? ⟨bn, 1, none⟩ = some (.int .i64 nv)) (go_keep) (first | (go_at_call 40; with_reducible refine (HO.out).mono ?_; rintro e w4 ⟨b4, rfl, t4, bl4⟩; have HT4 := hid t4; have HB4 := hid (btr HB3d.out bl4); have HB4' := hid bl4; have e1 := cell_on HD.out.2.1 HB4.out HLBN.out; have e0 := cell_on HD.out.1 HB4.out HLBN.out; clear t4 bl4) | (go_at_call 51; with_reducible refine (WI.out _ _ HB4'.out HT4.out).mono ?_; rintro e w5 ⟨b5, rfl, t5, bl5⟩; have HT5 := hid t5; have HB5 := hid (btr HB4.out bl5); have f1 := cell_on HD.out.2.1 HB5.out HLBN.out; have f0 := cell_on HD.out.1 HB5.out HLBN.out; clear t5 bl5) | (go_at_call 52; with_reducible refine (FL.out _ _ HT5.out).mono ?_; rintro e w6 ⟨b6, rfl, t6, bl6⟩; have HT6 := hid t6; have HB6 := hid (btr HB5.out bl6); have g1 := cell_on HD.out.2.1 HB6.out HLBN.out; have g0 := cell_on HD.out.1 HB6.out HLBN.out; clear t6 bl6))
    refine HK.out _ _ ?_
    go_wp2_with fail
    go_ret
    exact ⟨some b6, rfl, by rw [ED.out]; exact HT6.out, HB6.out⟩
end Go.Proofs.Ytldpkmegofncfaa
