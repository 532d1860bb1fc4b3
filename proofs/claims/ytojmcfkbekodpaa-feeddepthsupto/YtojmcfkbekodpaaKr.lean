/-
  What stands between two turns.
-/
import Derived.Test.YtojmcfkbekodpaaKp
import Derived.Shelf.RegionOpen
import Derived.Test.YtojmcfkbekodpaaKq
namespace Go.Proofs.Ytojmcfkbekodpaa.Fd
open Go.RowKit Go.Deep
set_option linter.unusedVariables false
set_option linter.unusedSimpArgs false
set_option maxHeartbeats 4000000
set_option maxRecDepth 100000
/-- a cut behind a region: its ways meet there. -/
theorem reg_cut {P : Program} {id : Nat} {ops : Array Oper} {b : Bool} {Q : Exit → Act → World → Prop} {a : Act} {w : World} {X : Type} (F : Act → X → Act) (T : X → World → Prop)
    (h1 : (Code.region id ops b).wp P (fun e a' w' => match e with | .normal => ∃ x, a' = F a x ∧ T x w' | _ => False) a w)
    (h2 : ∀ x w', T x w' → Q .normal (F a x) w') : (Code.region id ops b).wp P Q a w :=
  wp_mono h1 (fun e a' w' h => by
    cases e with
    | normal => obtain ⟨x, rfl, ht⟩ := h; exact h2 x w' ht
    | _ => exact h.elim)
/-- a turn. -/
structure Tu where
  pb : Option Addr
  cb : Nat
  lb : List Lv
  ps : Option Addr
  cs : Nat
  ls : List Lv
  pe : Option Addr
  ce : Nat
  le : List Ev
/-- turns that came in. -/
structure Tk (w : World) (z : Tu) : Prop where
  hb : Rl w z.pb z.cb z.lb
  hs : Rl w z.ps z.cs z.ls
  he : Re w z.pe z.ce z.le
  bb : z.lb.length * 24 + 24 ≤ 140737488355328
  bs : z.ls.length * 24 + 24 ≤ 140737488355328
  be : z.le.length * 104 ≤ 140737488355328
theorem Tk.on {w w' : World} {z : Tu} (h : Tk w z) (hb : Below w.heap.size w w') : Tk w' z := ⟨h.hb.on hb, h.hs.on hb, h.he.on hb, h.bb, h.bs, h.be⟩
def Tz (w : World) (q : Option Addr) (l : List Tu) : Prop := ∀ i (h : i < l.length), ∃ g o, q = some ⟨g, o, none⟩ ∧ g < w.heap.size ∧ w.cell? ⟨g, o + i * 3, none⟩ = some (.slice l[i].pb l[i].lb.length l[i].cb) ∧ w.cell? ⟨g, o + i * 3 + 1, none⟩ = some (.slice l[i].ps l[i].ls.length l[i].cs) ∧ w.cell? ⟨g, o + i * 3 + 2, none⟩ = some (.slice l[i].pe l[i].le.length l[i].ce) ∧ Tk w l[i]
theorem drew_add (w : World) (m n : Nat) : (w.drewN m).drewN n = w.drewN (m + n) := by simp
theorem infoE13 : (Try.prog.info? 45).map (fun i => (i.zero, i.size, i.bytes)) = some (some (.agg #[.int .u64 0, .int .i64 0, .int .u64 0, .int .u64 0, .int .u64 0, .int .u32 0, .int .i64 0, .int .i64 0, .int .i64 0, .int .u64 0, .int .u64 0, .int .i64 0, .int .i64 0]), 13, 104) := by kernel_rfl
theorem evc_one (l : List Ev) : ∀ u ∈ evc l, u.oneCell' = true := by
  intro u hu
  simp only [evc, List.mem_flatMap] at hu
  obtain ⟨x, _, hx⟩ := hu
  simp only [List.mem_cons, List.not_mem_nil, or_false] at hx
  rcases hx with rfl | rfl | rfl | rfl | rfl | rfl | rfl | rfl | rfl | rfl | rfl | rfl | rfl <;> rfl
theorem own_re {b : Nat} {w : World} {p : Option Addr} {c n : Nat} {l : List Ev} (h : w.ownsRow b 45 13 (.slice p n c) n (evc l)) (hn : l.length = n) : Re w p c l := by
  obtain ⟨h1, h2, h3⟩ := own_cap h
  refine ⟨fun e => ⟨List.length_eq_zero_iff.1 (by rw [hn]; exact (h3 e).1), (h3 e).2⟩, by rw [hn]; exact h1, h2, fun ad e => ?_⟩
  subst e
  exact (own_cells h).2
theorem step_store_row {P : Program} {w : World} {ops : Array Oper} {o : Oper} {a : Act} {K : Act → World → Prop} {Q : Exit → Act → World → Prop} {E : Prop} (hgd : o.guard = none) (ty : TypeId) (x y : Operand) (ho : o.op = .store ty x y)
    (g : Nat) (cells : Array Value) (hx : a.eval x = .pointer (some ⟨g, 0, none⟩)) (hy : a.eval y = .agg cells)
    (t : TypeId) (old : Array Value) (hg : w.heap[g]? = some (.cells old t (0, 0))) (hi : (P.info? ty).map (·.size) = some cells.size)
    (hold : old.size = cells.size) (h1 : cells.all (·.oneCell') = true)
    (h : K (a.put o.dst undef) (w.setRow g cells)) : if Region.wanted o (yielded ops a.tmps) = true then Oper.wp P o a w K Q else E := by
  have hw : Region.wanted o (yielded ops a.tmps) = true := by simp [Region.wanted, hgd]
  rw [if_pos hw]
  exact wp_store_row ty x y ho g cells hx hy t old hg hi hold h1 h
end Go.Proofs.Ytojmcfkbekodpaa.Fd
namespace Go.Proofs.Ytojmcfkbekodpaa.Fd
open Go.RowKit Go.Deep
set_option linter.unusedVariables false
set_option linter.unusedSimpArgs false
set_option maxHeartbeats 4000000
set_option maxRecDepth 100000
/-- a subscriber. -/
structure Sb (w : World) (S M nm : Nat) (sq hold gr : Int) (p1 : Option Addr) (c1 : Nat) (l1 : List Lv) (p2 : Option Addr) (c2 : Nat) (l2 : List Lv) (L : List Dm) (la : Dm) : Prop where
  row : w.heap[S]? = some (.cells #[.int .u64 sq, .slice p1 l1.length c1, .slice p2 l2.length c2, .int .i64 hold, .map (some M), .int .u64 gr, .int .u64 la.sq, .int .i64 la.kd, .int .i64 la.sd, .int .i64 la.pr, .int .u64 la.qt, .int .i64 la.ct] 105 (0, 0))
  o1 : Lo 0 w p1 c1 l1
  o2 : Lo 0 w p2 c2 l2
  k1 : Lok 1 l1
  k2 : Lok 2 l2
  hm : Hm w M nm L
  sq : 0 ≤ sq ∧ sq < 18446744073709551616
  gr : 0 ≤ gr ∧ gr < 18446744073709551616
theorem Sb.kept {w w' : World} {F : Nat → Prop} {S M nm : Nat} {sq hold gr : Int} {p1 : Option Addr} {c1 : Nat} {l1 : List Lv} {p2 : Option Addr} {c2 : Nat} {l2 : List Lv} {L : List Dm} {la : Dm} (h : Sb w S M nm sq hold gr p1 c1 l1 p2 c2 l2 L la) (k : Kp F w w') (hS : ¬ F S) (hM : ¬ F M) (f1 : ∀ g, OfP p1 g → ¬ F g) (f2 : ∀ g, OfP p2 g → ¬ F g) : Sb w' S M nm sq hold gr p1 c1 l1 p2 c2 l2 L la :=
  ⟨k.row h.row hS, h.o1.kept k f1, h.o2.kept k f2, h.k1, h.k2, h.hm.kept k hM, h.sq, h.gr⟩
theorem Sb.on {w w' : World} {S M nm : Nat} {sq hold gr : Int} {p1 : Option Addr} {c1 : Nat} {l1 : List Lv} {p2 : Option Addr} {c2 : Nat} {l2 : List Lv} {L : List Dm} {la : Dm} (h : Sb w S M nm sq hold gr p1 c1 l1 p2 c2 l2 L la) (hb : Below w.heap.size w w') : Sb w' S M nm sq hold gr p1 c1 l1 p2 c2 l2 L la :=
  h.kept (Kp.of (fun _ => False) hb) _root_.id _root_.id (fun _ _ h => h) (fun _ _ h => h)
theorem row12 {w : World} {g : Nat} {t : TypeId} {a0 a1 a2 a3 a4 a5 a6 a7 a8 a9 a10 a11 : Value} (h : w.heap[g]? = some (.cells #[a0, a1, a2, a3, a4, a5, a6, a7, a8, a9, a10, a11] t (0, 0))) : w.cell? ⟨g, 0, none⟩ = some a0 ∧ w.cell? ⟨g, 1, none⟩ = some a1 ∧ w.cell? ⟨g, 2, none⟩ = some a2 ∧ w.cell? ⟨g, 3, none⟩ = some a3 ∧ w.cell? ⟨g, 4, none⟩ = some a4 ∧ w.cell? ⟨g, 5, none⟩ = some a5 :=
  ⟨row_cell h 0, row_cell h 1, row_cell h 2, row_cell h 3, row_cell h 4, row_cell h 5⟩
theorem newS_ok (hold : Nat) (hh : hold ≤ 1024) (w : World) : Calls Try.prog 16 #[.int .i64 hold] w fun e w' => ∃ S M, e = .returned (.tuple #[.pointer (some ⟨S, 0, none⟩), .int .i64 0]) ∧ Sb w' S M 0 0 hold 0 none 0 [] none 0 [] [] dm0 ∧ w.heap.size ≤ S ∧ w.heap.size ≤ M ∧ Below w.heap.size w w' := by
  have a1 : decide ((hold : Int) < 0) = false := by simp
  have a2 : decide (1024 < (hold : Int)) = false := by simp; omega
  have a3 : decide (1024 < hold) = false := by simp; omega
  have rm : ∀ U : World, (Instr.makeMap 103 none).run Try.prog U = .ok (.map (some U.heap.size)) (U.alloc (.map #[] 0)) := fun U => run_makeMap 103 U
  have HS := hid (show Sb ((w.alloc (.map #[] 0)).alloc (.cells #[.int .u64 0, .slice none 0 0, .slice none 0 0, .int .i64 hold, .map (some w.heap.size), .int .u64 0, .int .u64 0, .int .i64 0, .int .i64 0, .int .i64 0, .int .u64 0, .int .i64 0] 105)) (w.heap.size + 1) w.heap.size 0 0 hold 0 none 0 [] none 0 [] [] dm0 from by
    have := World.alloc_heap_new (w.alloc (.map #[] 0)) (.cells #[.int .u64 0, .slice none 0 0, .slice none 0 0, .int .i64 hold, .map (some w.heap.size), .int .u64 0, .int .u64 0, .int .i64 0, .int .i64 0, .int .i64 0, .int .u64 0, .int .i64 0] 105)
    rw [show (w.alloc (.map #[] 0)).heap.size = w.heap.size + 1 from by simp] at this
    exact ⟨this, Lo.nil0 _ _, Lo.nil0 _ _, Lok.nil _, Lok.nil _, (Hm.made w).on (ball _ _), by omega, by omega⟩)
  go_enter Try.func16, Try.ntmps16
  go_wp2
  go_ret2
  exact ⟨w.heap.size + 1, w.heap.size, rfl, HS.out, by omega, Nat.le_refl _, btr (ball _ _) (ball _ _)⟩
theorem good_any {w : World} {S M nm : Nat} {sq hold gr : Int} {p1 : Option Addr} {c1 : Nat} {l1 : List Lv} {p2 : Option Addr} {c2 : Nat} {l2 : List Lv} {L : List Dm} {la : Dm} (h : Sb w S M nm sq hold gr p1 c1 l1 p2 c2 l2 L la) :
    Calls Try.prog 19 #[.pointer (some ⟨S, 0, none⟩)] w fun e w' => e = .returned (.bool (decide (gr ≤ sq))) ∧ ∃ n, w' = w.drewN n := by
  obtain ⟨k0, k1, k2, k3, k4, k5⟩ := row12 h.row
  clear h k1 k2 k3 k4
  go_enter Try.func19, Try.ntmps19
  go_upto_region 1 with fail
  go_quiet (fail)
  go_wp2
  go_ret
  exact ⟨rfl, _, rfl⟩
theorem pictureS_any (S : Nat) (row : Array Value) (sq : Int) (p1 p2 : Option Addr) (c1 c2 : Nat) (l1 l2 : List Lv) (w : World) (k0 : w.cell? ⟨S, 0, none⟩ = some (.int .u64 sq)) (k1 : w.cell? ⟨S, 1, none⟩ = some (.slice p1 l1.length c1)) (k2 : w.cell? ⟨S, 2, none⟩ = some (.slice p2 l2.length c2)) (hS : S < w.heap.size) (h1 : Rl w p1 c1 l1) (h2 : Rl w p2 c2 l2) (b1 : l1.length * 24 ≤ 140737488355328) (b2 : l2.length * 24 ≤ 140737488355328) :
    Calls Try.prog 21 #[.pointer (some ⟨S, 0, none⟩)] w fun e w' => ∃ q1 d1 q2 d2, e = .returned (.agg #[.int .u64 sq, .slice q1 l1.length d1, .slice q2 l2.length d2]) ∧ Lo w.heap.size w' q1 d1 l1 ∧ Lo w.heap.size w' q2 d2 l2 ∧ (∀ g, OfP q1 g → ¬ OfP q2 g) ∧ Below w.heap.size w w' := by
  obtain ⟨R, hR⟩ : ∃ R, w.heap.size = R := ⟨_, rfl⟩
  obtain ⟨n1, hn1⟩ : ∃ n, l1.length = n := ⟨_, rfl⟩
  obtain ⟨n2, hn2⟩ : ∃ n, l2.length = n := ⟨_, rfl⟩
  obtain ⟨W, hW⟩ : ∃ W, w.alloc (.cells #[.int .u64 0, .slice none 0 0, .slice none 0 0] 49) = W := ⟨_, rfl⟩
  have hb0 : Below w.heap.size w W := by rw [← hW]; exact ball _ _
  have hsz : W.heap.size = R + 1 := by rw [← hW, ← hR]; simp
  have HB := hid hb0
  have HZ := hid (show W.heap[R]? = some (.cells #[.int .u64 0, .slice none 0 0, .slice none 0 0] 49 (0, 0)) from by rw [← hW, ← hR]; exact World.alloc_heap_new _ _)
  have HW := hid hW
  have HR := hid hR
  have HS := hid hsz
  have C := hid (copied_any sq p1 p2 c1 c2 l1 l2 W (h1.on hb0) (h2.on hb0) b1 b2)
  have k0 := (hb0.cell (p := ⟨S, 0, none⟩) hS).trans k0
  have k1 := (hb0.cell (p := ⟨S, 1, none⟩) hS).trans k1
  have k2 := (hb0.cell (p := ⟨S, 2, none⟩) hS).trans k2
  rw [hn1, hn2] at C
  rw [hn1] at k1
  rw [hn2] at k2
  rw [hn1, hn2]
  clear h1 h2 b1 b2 hb0 hsz hW hR hn1 hn2
  go_enter Try.func21, Try.ntmps21
  go_upto_region 1 with fail
  rw [HW.out, HR.out]
  go_wp2_with (go_at_call 38; with_reducible refine (C.out).mono ?_; rintro e w1 ⟨q1, d1, q2, d2, rfl, hl1, hl2, ha, hb⟩; have HL1 := hid hl1; have HL2 := hid hl2; have HA := hid ha; have HB1 := hid hb; have HZ1 := hid (row_on HZ.out hb); clear hl1 hl2 ha hb; refine Hid.out ?_)
  have AI := hid (show (Try.prog.info? 49).map (·.size) = some (#[.int .u64 sq, .slice q1 n1 d1, .slice q2 n2 d2] : Array Value).size from infoP)
  have AS := hid (show (#[.int .u64 0, .slice none 0 0, .slice none 0 0] : Array Value).size = (#[.int .u64 sq, .slice q1 n1 d1, .slice q2 n2 d2] : Array Value).size from rfl)
  have AA := hid (show (#[.int .u64 sq, .slice q1 n1 d1, .slice q2 n2 d2] : Array Value).all (·.oneCell') = true from by simp [Value.oneCell'])
  refine hid ?_
  go_wp2_with (refine wpList_store_row (by rfl) 49 (.tmp 2) (.tmp 7) (by rfl) R #[.int .u64 sq, .slice q1 n1 d1, .slice q2 n2 d2] (by rfl) (by rfl) 49 _ HZ1.out AI.out AS.out AA.out ?_)
  refine bodyPost_ret (results_cell_row (fn := Try.f21) Try.results21 _ _ R 49 #[.int .u64 sq, .slice q1 n1 d1, .slice q2 n2 d2] (0, 0) _ (by rfl) (setRow_heap _ _ _ _ 49 (0, 0) HZ1.out) Try.underlying49 rfl infoP) rfl ⟨q1, d1, q2, d2, rfl, ?_, ?_, HA.out, ?_⟩
  · exact (HL1.out.setRow (by have := HS.out; omega)).base HB.out.size
  · exact (HL2.out.setRow (by have := HS.out; omega)).base HB.out.size
  · exact setRow_below (btr HB.out HB1.out) (by have := HR.out; omega)
end Go.Proofs.Ytojmcfkbekodpaa.Fd
namespace Go.Proofs.Ytojmcfkbekodpaa.Fd
open Go.RowKit Go.Deep
set_option linter.unusedVariables false
set_option linter.unusedSimpArgs false
set_option maxHeartbeats 4000000
set_option maxRecDepth 100000
theorem map_ne {w : World} {M g nm : Nat} {L : List Dm} {cs : Array Value} {t : TypeId} (h : Hm w M nm L) (hg : w.heap[g]? = some (.cells cs t (0, 0))) : M ≠ g := by
  rintro rfl
  obtain ⟨es, cl, e⟩ := h.obj
  rw [e] at hg
  cases hg
theorem keep_any {w : World} {S M nm : Nat} {sq hold gr : Int} {p1 : Option Addr} {c1 : Nat} {l1 : List Lv} {p2 : Option Addr} {c2 : Nat} {l2 : List Lv} {L : List Dm} {la : Dm} (h : Sb w S M nm sq hold gr p1 c1 l1 p2 c2 l2 L la) (d : Dm) (hd : 0 ≤ d.sq ∧ d.sq < 18446744073709551616) (hx : L.any (fun x => x.sq == d.sq) = false) (hr : (L.length : Int) < hold) (hn : nm < maxLen) :
    Calls Try.prog 40 #[.pointer (some ⟨S, 0, none⟩), .agg #[.int .u64 d.sq, .int .i64 d.kd, .int .i64 d.sd, .int .i64 d.pr, .int .u64 d.qt, .int .i64 d.ct]] w fun e w' => e = .returned (.tuple #[]) ∧ Sb w' S M (nm + 1) sq hold gr p1 c1 l1 p2 c2 l2 (L ++ [d]) la ∧ Kp (fun g => g = M) w w' := by
  obtain ⟨R, hR⟩ : ∃ R, w.heap.size = R := ⟨_, rfl⟩
  obtain ⟨W, hW⟩ : ∃ W, w.alloc (.cells #[.int .u64 d.sq, .int .i64 d.kd, .int .i64 d.sd, .int .i64 d.pr, .int .u64 d.qt, .int .i64 d.ct] 47) = W := ⟨_, rfl⟩
  have hb0 : Below w.heap.size w W := by rw [← hW]; exact ball _ _
  have HD := hid (show W.heap[R]? = some (.cells #[.int .u64 d.sq, .int .i64 d.kd, .int .i64 d.sd, .int .i64 d.pr, .int .u64 d.qt, .int .i64 d.ct] 47 (0, 0)) from by rw [← hW, ← hR]; exact World.alloc_heap_new _ _)
  have HS := hid (h.on hb0)
  have HB := hid hb0
  have HW := hid hW
  have HR := hid hR
  have HLN := hid (fun (U : World) (hU : Below W.heap.size W U) (ty : TypeId) => (HS.out.hm.on hU).len ty)
  have hlen : ∀ n ty, (Builtin.len_ #[103] ty #[.map (some M)]).run Try.prog (W.drewN n) = .ok (.int .i64 L.length) (W.drewN n) := fun n ty => HLN.out _ (bdrew _ _) ty
  obtain ⟨k0, k1, k2, k3, k4, k5⟩ := row12 HS.out.row
  obtain ⟨j0, j1, j2, j3, j4, j5⟩ := row6 HD.out
  obtain ⟨n, hn'⟩ : ∃ n, L.length = n := ⟨_, rfl⟩
  have HNN := hid hn'
  rw [hn'] at hlen hr
  clear h hb0 hW hR k0 k1 k2 k5 hn'
  go_enter Try.func40, Try.ntmps40
  go_upto_region 1 with fail
  rw [HW.out, HR.out]
  go_quiet (fail)
  go_upto_region 2 with fail
  obtain ⟨U, hU⟩ : ∃ U, W.drewN nq = U := ⟨_, rfl⟩
  have BU := hid (show Below W.heap.size W U from by rw [← hU]; exact bdrew _ _)
  rw [hU]
  clear hU hlen k3 k4 j0 j1 j2 j3 j4 j5
  have HSu := hid (HS.out.on BU.out)
  have HDu := hid (row_on HD.out BU.out)
  obtain ⟨k0, k1, k2, k3, k4, k5⟩ := row12 HSu.out.row
  obtain ⟨j0, j1, j2, j3, j4, j5⟩ := row6 HDu.out
  obtain ⟨V, hrun, hm, hk⟩ := (HSu.out.hm.on (bdrew1 U)).put hn d hd hx
  have HM := hid hm
  have HK := hid hk
  clear k0 k1 k2 k3 k5 hm hk
  go_region_law fail
  all_goals
    go_wp2
    go_end0
    refine ⟨rfl, ?_, ?_⟩
    · have hs := HSu.out.on (bdrew1 U)
      exact ⟨HK.out.row hs.row (fun e => map_ne hs.hm hs.row e.symm), hs.o1.kept HK.out (fun g hg e => by obtain ⟨cu, hc⟩ := hs.o1.ty hg; exact map_ne hs.hm hc e.symm), hs.o2.kept HK.out (fun g hg e => by obtain ⟨cu, hc⟩ := hs.o2.ty hg; exact map_ne hs.hm hc e.symm), hs.k1, hs.k2, HM.out, hs.sq, hs.gr⟩
    · exact (Kp.of _ (btr (btr HB.out BU.out) (bdrew1 U))).trans HK.out (fun _ _ h => h)
theorem do_sell {w : World} {S M nm : Nat} {sq hold gr : Int} {p1 : Option Addr} {c1 : Nat} {l1 : List Lv} {p2 : Option Addr} {c2 : Nat} {l2 : List Lv} {L : List Dm} {la : Dm} (h : Sb w S M nm sq hold gr p1 c1 l1 p2 c2 l2 L la) (d : Dm) (hq : 0 ≤ d.sq ∧ d.sq < 18446744073709551616) (hk : d.kd = 1) (hsd : d.sd = 2) (hd : dgn d = false) (ha : ∀ k (hk : k < l2.length), bt 2 l2[k].pr d.pr = true) (hnew : Lok 2 (l2 ++ [⟨d.pr, d.qt, d.ct⟩])) (ap : ∀ g, OfP p1 g → ¬ OfP p2 g) :
    Calls Try.prog 41 #[.pointer (some ⟨S, 0, none⟩), .agg #[.int .u64 d.sq, .int .i64 d.kd, .int .i64 d.sd, .int .i64 d.pr, .int .u64 d.qt, .int .i64 d.ct]] w fun e w' => e = .returned (.tuple #[]) ∧ ∃ q c', Sb w' S M nm d.sq hold gr p1 c1 l1 q c' (l2 ++ [⟨d.pr, d.qt, d.ct⟩]) L la ∧ Kp (fun g => g = S ∨ OfP p2 g) w w' ∧ Fr w.heap.size p2 q := by
  obtain ⟨R, hR⟩ : ∃ R, w.heap.size = R := ⟨_, rfl⟩
  obtain ⟨W, hW⟩ : ∃ W, w.alloc (.cells #[.int .u64 d.sq, .int .i64 d.kd, .int .i64 d.sd, .int .i64 d.pr, .int .u64 d.qt, .int .i64 d.ct] 47) = W := ⟨_, rfl⟩
  have hb0 : Below w.heap.size w W := by rw [← hW]; exact ball _ _
  have HD := hid (show W.heap[R]? = some (.cells #[.int .u64 d.sq, .int .i64 d.kd, .int .i64 d.sd, .int .i64 d.pr, .int .u64 d.qt, .int .i64 d.ct] 47 (0, 0)) from by rw [← hW, ← hR]; exact World.alloc_heap_new _ _)
  have HS := hid (h.on hb0)
  have HB := hid hb0
  have HW := hid hW
  have HR := hid hR
  have CE := hid (change_end 0 p2 c2 l2 d W.drew (HS.out.o2.on (bdrew1 W)) (by rw [hsd]; exact h.k2) hd (by rw [hsd]; exact ha) (Nat.zero_le _))
  have q1 : (d.kd == 2) = false := by simp [hk]
  have q2 : (d.sd == 1) = false := by simp [hsd]
  obtain ⟨n2, hn2⟩ : ∃ n, l2.length = n := ⟨_, rfl⟩
  have HN := hid hn2
  obtain ⟨k0, k1, k2, k3, k4, k5⟩ := row12 HS.out.row
  obtain ⟨j0, j1, j2, j3, j4, j5⟩ := row6 HD.out
  rw [hn2] at CE k2
  have HNW := hid hnew
  have HAP := hid ap
  clear h hb0 hW hR k0 k1 k3 k4 k5 hk hsd hd ha hn2 hnew ap
  go_enter Try.func41, Try.ntmps41
  go_upto_region 2 with fail
  rw [HW.out, HR.out]
  go_upto_region 1 with fail
  have LW := hid (show ∀ (q : Option Addr) (c' : Nat) (w1 : World), Kp (fun g => OfP p2 g) W.drew w1 → w1.heap[S]? = some (.cells #[.int .u64 sq, .slice p1 l1.length c1, .slice p2 l2.length c2, .int .i64 hold, .map (some M), .int .u64 gr, .int .u64 la.sq, .int .i64 la.kd, .int .i64 la.sd, .int .i64 la.pr, .int .u64 la.qt, .int .i64 la.ct] 105 (0, 0)) ∧ w1.heap[R]? = some (.cells #[.int .u64 d.sq, .int .i64 d.kd, .int .i64 d.sd, .int .i64 d.pr, .int .u64 d.qt, .int .i64 d.ct] 47 (0, 0)) from fun q c' w1 hk => by
    have hs := HS.out.on (bdrew1 W)
    refine ⟨hk.row hs.row (fun e => ?_), hk.row (row_on HD.out (bdrew1 W)) (fun e => ?_)⟩
    · obtain ⟨cu, hc⟩ := hs.o2.ty e; exact row_ne hc hs.row (by decide) rfl
    · obtain ⟨cu, hc⟩ := hs.o2.ty e; exact row_ne hc (row_on HD.out (bdrew1 W)) (by decide) rfl)
  go_region_law (go_simp; go_at_call 66; with_reducible refine (CE.out).mono ?_; rintro e w1 ⟨q, c', rfl, h1, h2, h3⟩; have F1 := hid h1; have F2 := hid h2; have F3 := hid h3; obtain ⟨g1, g2⟩ := LW.out q c' w1 h2; have G1 := hid g1; have G2 := hid g2; have z2 := row_cell g1 2; have z3 := row_frz g1 2; clear h1 h2 h3 g1 g2)
  all_goals
    clear z2 z3
    obtain ⟨V, hV⟩ : ∃ V, w1.setCell ⟨S, 2, none⟩ (.slice q (n2 + 1) c') = V := ⟨_, rfl⟩
    have GV := hid (show V.heap[S]? = some (.cells #[.int .u64 sq, .slice p1 l1.length c1, .slice q (n2 + 1) c', .int .i64 hold, .map (some M), .int .u64 gr, .int .u64 la.sq, .int .i64 la.kd, .int .i64 la.sd, .int .i64 la.pr, .int .u64 la.qt, .int .i64 la.ct] 105 (0, 0)) from by rw [← hV]; exact set_row _ G1.out)
    have GD := hid (show V.heap[R]? = some (.cells #[.int .u64 d.sq, .int .i64 d.kd, .int .i64 d.sd, .int .i64 d.pr, .int .u64 d.qt, .int .i64 d.ct] 47 (0, 0)) from by rw [← hV]; exact set_oth _ G2.out (row_ne G2.out G1.out (by decide)))
    have KV := hid (show Kp (fun g => g = S) w1 V from by rw [← hV]; exact Kp.set _ _ _ _)
    rw [hV]
    clear hV
    have z0 := row_cell GV.out 0
    have z1 := row_frz GV.out 0
    obtain ⟨t0, t1, t2, t3, t4, t5⟩ := row6 GD.out
    go_wp2
    go_end0
    refine ⟨rfl, q, c', ?_, ?_, F3.out.mono (by have := HB.out.size; simpa using this)⟩
    · have hs := HS.out.on (bdrew1 W)
      have K2 := KV.out.trans (Kp.set V S 0 (.int .u64 d.sq)) (fun _ _ h => h)
      have ns : ∀ g, (∃ cu, w1.heap[g]? = some (.cells cu 71 (0, 0))) → ¬ g = S := fun g hg e => by obtain ⟨cu, hc⟩ := hg; exact row_ne hc G1.out (by decide) e
      have o1 := hs.o1.kept F2.out (fun g hg => HAP.out g hg)
      have hM := hs.hm.kept F2.out (fun e => by obtain ⟨cu, hc⟩ := hs.o2.ty e; exact map_ne hs.hm hc rfl)
      refine ⟨?_, o1.kept K2 (fun g hg => ns g (o1.ty hg)), F1.out.kept K2 (fun g hg => ns g (F1.out.ty hg)), hs.k1, HNW.out, hM.kept K2 (fun e => map_ne hM G1.out e), hq, hs.gr⟩
      rw [List.length_append, HN.out]
      exact set_row _ GV.out
    · refine (((Kp.of _ (btr HB.out (bdrew1 W))).trans F2.out (fun _ _ h => .inr h)).trans KV.out (fun _ _ h => .inl h)).trans (Kp.set V S 0 (.int .u64 d.sq)) (fun _ _ h => .inl h)
end Go.Proofs.Ytojmcfkbekodpaa.Fd
