/-
  A pair; what it shows and tells.
-/
import Derived.Test.YtiphgfghdbmlcaaFhI
import Derived.Test.YtiphgfghdbmlcaaFhL
import Derived.Test.YtiphgfghdbmlcaaFhN
import Derived.Test.YtiphgfghdbmlcaaFfD
namespace Go.Proofs.Ytiphgfghdbmlcaa
open Go.RowKit Go.Deep
set_option linter.unusedVariables false
set_option linter.unusedSimpArgs false
set_option maxHeartbeats 8000000
set_option maxRecDepth 100000
attribute [local go_sem ↓] Go.wp_at_zero Go.wp_at_succ
/-- a pair: the program's subscriber and the document's. -/
structure Px (w : World) (B S M nm hold : Nat) (s : Ss) (p1 : Option Addr) (c1 : Nat) (p2 : Option Addr) (c2 : Nat) (q1 : Option Addr) (e1 : Nat) (q2 : Option Addr) (e2 : Nat) (q3 : Option Addr) (e3 : Nat) : Prop where
  row : w.heap[B]? = some (.cells #[.pointer (some ⟨S, 0, none⟩), .int .i64 hold, .int .u64 s.sq, .slice q1 s.l1.length e1, .slice q2 s.l2.length e2, .slice q3 s.L.length e3, .int .u64 s.gr, .int .u64 s.la.sq, .int .i64 s.la.kd, .int .i64 s.la.sd, .int .i64 s.la.pr, .int .u64 s.la.qt, .int .i64 s.la.ct] 62 (0, 0))
  su : Su w S M nm hold s p1 c1 p2 c2
  rd : Rd w s q1 e1 q2 e2 q3 e3
  sg : Sg hold s
  a11 : ∀ g, OfP p1 g → ¬ OfP q1 g
  a12 : ∀ g, OfP p1 g → ¬ OfP q2 g
  a21 : ∀ g, OfP p2 g → ¬ OfP q1 g
  a22 : ∀ g, OfP p2 g → ¬ OfP q2 g
theorem Px.on {w w' : World} {B S M nm hold : Nat} {s : Ss} {p1 p2 q1 q2 q3 : Option Addr} {c1 c2 e1 e2 e3 : Nat} (h : Px w B S M nm hold s p1 c1 p2 c2 q1 e1 q2 e2 q3 e3) (hb : Below w.heap.size w w') : Px w' B S M nm hold s p1 c1 p2 c2 q1 e1 q2 e2 q3 e3 := ⟨row_on h.row hb, h.su.on hb, h.rd.on hb, h.sg, h.a11, h.a12, h.a21, h.a22⟩
theorem row13 {w : World} {g : Nat} {t : TypeId} {a0 a1 a2 a3 a4 a5 a6 a7 a8 a9 a10 a11 a12 : Value} (h : w.heap[g]? = some (.cells #[a0, a1, a2, a3, a4, a5, a6, a7, a8, a9, a10, a11, a12] t (0, 0))) : w.cell? ⟨g, 0, none⟩ = some a0 ∧ w.cell? ⟨g, 1, none⟩ = some a1 ∧ w.cell? ⟨g, 2, none⟩ = some a2 ∧ w.cell? ⟨g, 3, none⟩ = some a3 ∧ w.cell? ⟨g, 4, none⟩ = some a4 ∧ w.cell? ⟨g, 5, none⟩ = some a5 ∧ w.cell? ⟨g, 6, none⟩ = some a6 ∧ w.cell? ⟨g, 7, none⟩ = some a7 ∧ w.cell? ⟨g, 8, none⟩ = some a8 ∧ w.cell? ⟨g, 9, none⟩ = some a9 ∧ w.cell? ⟨g, 10, none⟩ = some a10 ∧ w.cell? ⟨g, 11, none⟩ = some a11 ∧ w.cell? ⟨g, 12, none⟩ = some a12 :=
  ⟨row_cell h 0, row_cell h 1, row_cell h 2, row_cell h 3, row_cell h 4, row_cell h 5, row_cell h 6, row_cell h 7, row_cell h 8, row_cell h 9, row_cell h 10, row_cell h 11, row_cell h 12⟩
theorem tells_any {w : World} {B S M nm hold : Nat} {s : Ss} {p1 p2 q1 q2 q3 : Option Addr} {c1 c2 e1 e2 e3 : Nat} (h : Px w B S M nm hold s p1 c1 p2 c2 q1 e1 q2 e2 q3 e3) (hh : hold ≤ 1024) :
    Calls Try.prog 20 #[.pointer (some ⟨B, 0, none⟩)] w fun e w' => e = .returned (.bool true) ∧ Below w.heap.size w w' := by
  obtain ⟨sq, gr, l1, l2, L, la⟩ := s
  obtain ⟨n1, hn1⟩ : ∃ n, l1.length = n := ⟨_, rfl⟩
  obtain ⟨n2, hn2⟩ : ∃ n, l2.length = n := ⟨_, rfl⟩
  obtain ⟨n, hn⟩ : ∃ n, L.length = n := ⟨_, rfl⟩
  have hb1 : l1.length ≤ 262144 := h.sg.k1.len
  have hb2 : l2.length ≤ 262144 := h.sg.k2.len
  have HX := hid (fun (U : World) (hU : Below w.heap.size w U) => h.on hU)
  have HROW := hid (show ∀ U, Below w.heap.size w U → U.heap[B]? = some (.cells #[.pointer (some ⟨S, 0, none⟩), .int .i64 hold, .int .u64 sq, .slice q1 n1 e1, .slice q2 n2 e2, .slice q3 n e3, .int .u64 gr, .int .u64 la.sq, .int .i64 la.kd, .int .i64 la.sd, .int .i64 la.pr, .int .u64 la.qt, .int .i64 la.ct] 62 (0, 0)) from fun U hU => by rw [← hn1, ← hn2, ← hn]; exact (h.on hU).row)
  have CP := hid (show ∀ U, Below w.heap.size w U → Calls Try.prog 39 #[.pointer (some ⟨S, 0, none⟩)] U fun e w' => ∃ q1 d1 q2 d2, e = .returned (.agg #[.int .u64 sq, .slice q1 n1 d1, .slice q2 n2 d2]) ∧ Hid (Lo U.heap.size w' q1 d1 l1) ∧ Hid (Lo U.heap.size w' q2 d2 l2) ∧ Hid (∀ g, OfP q1 g → ¬ OfP q2 g) ∧ Hid (Below U.heap.size U w') from fun U hU => by
    obtain ⟨z0, z1, z2, _⟩ := row12 (h.on hU).su.sb.row
    have := pictureS_any S #[] sq p1 p2 c1 c2 l1 l2 U z0 z1 z2 (row_lt (h.on hU).su.sb.row) (h.on hU).su.sb.o1.rl (h.on hU).su.sb.o2.rl (by omega) (by omega)
    rw [hn1, hn2] at this
    exact this)
  have CS := hid (show ∀ U, Below w.heap.size w U → ∀ (r1 r2 : Option Addr) (d1 d2 : Nat), Rl U r1 d1 l1 → Rl U r2 d2 l2 → Calls Try.prog 16 #[.agg #[.int .u64 sq, .slice r1 n1 d1, .slice r2 n2 d2], .agg #[.int .u64 sq, .slice q1 n1 e1, .slice q2 n2 e2]] U fun e w' => e = .returned (.bool true) ∧ Hid (Below U.heap.size U w') from fun U hU r1 r2 d1 d2 x1 x2 => by
    have := samePicture_same sq r1 r2 q1 q2 d1 d2 e1 e2 l1 l2 U x1 x2 (h.on hU).rd.o1.rl (h.on hU).rd.o2.rl
    rw [hn1, hn2] at this
    exact this)
  have CM := hid (fun (U : World) (hU : Below w.heap.size w U) => missing_any (h.on hU).su h.sg)
  have CR := hid (fun (U : World) (hU : Below w.heap.size w U) => rmissing_any hold hh ⟨sq, gr, l1, l2, L, la⟩ h.sg q1 q2 q3 e1 e2 e3 U (h.on hU).rd.o3)
  dsimp only at CM CR
  rw [hn1, hn2, hn] at CR
  obtain ⟨xa, hxa⟩ : ∃ x, miA ⟨sq, gr, l1, l2, L, la⟩ = x := ⟨_, rfl⟩
  obtain ⟨xb, hxb⟩ : ∃ x, miB ⟨sq, gr, l1, l2, L, la⟩ = x := ⟨_, rfl⟩
  obtain ⟨xg, hxg⟩ : ∃ x, decide (gr ≤ sq) = x := ⟨_, rfl⟩
  rw [hxa, hxb, hxg] at CM CR
  have CL := hid (fun (U : World) (hU : Below w.heap.size w U) => last_any (h.on hU).su.sb)
  have CRL := hid (fun (U : World) => rlast_any hold sq gr n1 n2 n e1 e2 e3 q1 q2 q3 la U)
  dsimp only at CL
  have hla : decide (0 < la.sq) = (la.kd == 2) := by
    rcases h.sg.la with e | ⟨e1, e2⟩
    · dsimp only at e; subst e; rfl
    · dsimp only at e1 e2
      have : 0 < la.sq := by omega
      simp [e1, this]
  rw [hla] at CL
  obtain ⟨bl, hbl⟩ : ∃ x, (la.kd == 2) = x := ⟨_, rfl⟩
  rw [hbl] at CL CRL
  have CG := hid (show ∀ U, Below w.heap.size w U → Calls Try.prog 44 #[.pointer (some ⟨S, 0, none⟩)] U fun e w' => e = .returned (.bool xg) ∧ Hid (Below U.heap.size U w') from fun U hU => by
    refine (good_any (h.on hU).su.sb).mono ?_
    rintro e w' ⟨rfl, m, rfl⟩
    dsimp only
    rw [hxg]
    exact ⟨rfl, bdrew _ _⟩)
  have CRG := hid (show ∀ U, Calls Try.prog 45 #[.agg #[.int .i64 hold, .int .u64 sq, .slice q1 n1 e1, .slice q2 n2 e2, .slice q3 n e3, .int .u64 gr, .int .u64 la.sq, .int .i64 la.kd, .int .i64 la.sd, .int .i64 la.pr, .int .u64 la.qt, .int .i64 la.ct]] U fun e w' => e = .returned (.bool xg) ∧ Hid (Below U.heap.size U w') from fun U => by
    have := rgood_any hold sq gr n1 n2 n e1 e2 e3 q1 q2 q3 la U
    rw [hxg] at this
    exact this)
  have HN1 := hid hn1
  have HN2 := hid hn2
  have b1 : n1 * 24 + 24 ≤ 140737488355328 := by omega
  have b2 : n2 * 24 + 24 ≤ 140737488355328 := by omega
  obtain ⟨k0, k1, k2, k3, k4, k5, k6, k7, k8, k9, k10, k11, k12⟩ := row13 (HROW.out w (Below.refl _ _))
  have C1 := hid (CP.out w (Below.refl _ _))
  clear h hn1 hn2 hn hxa hxb hxg hla hbl hb1 hb2
  go_enter Try.func20, Try.ntmps20
  go_upto_region 2 with (go_at_call 39; (with_reducible refine (C1.out).mono ?_); rintro e w1 ⟨r1, d1, r2, d2, rfl, R1, R2, RA, B1⟩; clear C1)
  obtain ⟨W2, hW2⟩ : ∃ W, w1.alloc (.cells #[.int .u64 sq, .slice r1 n1 d1, .slice r2 n2 d2] 30) = W := ⟨_, rfl⟩
  obtain ⟨A, hA⟩ : ∃ A, w1.heap.size = A := ⟨_, rfl⟩
  have B2 := hid (show Below w.heap.size w W2 from by rw [← hW2]; exact btr B1.out (ball _ _))
  have HA2 := hid (show W2.heap[A]? = some (.cells #[.int .u64 sq, .slice r1 n1 d1, .slice r2 n2 d2] 30 (0, 0)) from by rw [← hW2, ← hA]; exact World.alloc_heap_new _ _)
  have R12 := hid (show Lo w.heap.size W2 r1 d1 l1 ∧ Lo w.heap.size W2 r2 d2 l2 from by rw [← hW2]; exact ⟨R1.out.on (ball _ _), R2.out.on (ball _ _)⟩)
  rw [hW2, hA]
  clear hW2 hA k0 k1 k2 k3 k4 k5 k6 k7 k8 k9 k10 k11 k12
  obtain ⟨k0, k1, k2, k3, k4, k5, k6, k7, k8, k9, k10, k11, k12⟩ := row13 (HROW.out W2 B2.out)
  obtain ⟨j0, j1, j2⟩ := row3 HA2.out
  have C2 := hid (CS.out W2.drew (btr B2.out (bdrew1 _)) r1 r2 d1 d2 (R12.out.1.rl.on (bdrew1 _)) (R12.out.2.rl.on (bdrew1 _)))
  clear k0 k1 k5 k6 k7 k8 k9 k10 k11 k12
  refine reg_cut (X := Unit) (fun a t => ((((((((a.put (some 19) (.agg #[.int .u64 sq, .slice r1 n1 d1, .slice r2 n2 d2])).put (some 20) (.pointer (some ⟨B, 0, none⟩))).put (some 21) (.pointer (some ⟨B, 0, none⟩))).put (some 22) (.pointer (some ⟨B, 1, none⟩))).put (some 23) (.pointer (some ⟨B, 2, none⟩))).put (some 24) (.agg #[.int .u64 sq, .slice q1 n1 e1, .slice q2 n2 e2])).put (some 25) (.bool true)).put (some 26) (.bool false))) (fun t V => Hid (Below W2.heap.size W2 V)) ?_ ?_
  · go_region_law (go_simp; go_at_call 16; (with_reducible refine (C2.out).mono ?_); rintro e w3 ⟨rfl, Y3⟩; have B3 := hid (btr (bdrew1 W2) Y3.out))
    all_goals exact ⟨(), by kernel_rfl, B3.out⟩
  rintro ⟨⟩ w3 B3
  try simp only [List.getElem_toArray, List.getElem_cons_succ, List.getElem_cons_zero, Act.put, List.setIfInBounds_toArray, List.set_cons_zero, List.set_cons_succ]
  clear k2 k3 k4 j0 j1 j2 C2
  have HA3 := hid (row_on HA2.out B3.out)
  obtain ⟨i0, i1, i2⟩ := row3 HA3.out
  have CW := hid (wipe_any sq w.heap.size r1 r2 n1 n2 d1 d2 (lvc l1) (lvc l2) w3 (by have := R12.out.1.on B3.out; unfold Lo at this; rw [HN1.out] at this; exact this) (by have := R12.out.2.on B3.out; unfold Lo at this; rw [HN2.out] at this; exact this) RA.out b1 b2 (btr B2.out B3.out).size)
  go_upto_region 5 with (go_at_call 14; (with_reducible refine (CW.out).mono ?_); rintro e w4 ⟨rfl, k4'⟩; have K4 := hid k4'; clear k4')
  have B4 := hid (show Below w.heap.size w w4 from (btr B2.out B3.out).trans (K4.out.below (btr B2.out B3.out).size (fun g hg e => by rcases e with e | e; (have := (R12.out.1.ge e).1; omega); (have := (R12.out.2.ge e).1; omega))))
  clear i0 i1 i2 CW
  have k0 := row_cell (HROW.out w4 B4.out) 0
  have C5 := hid (CM.out w4 B4.out)
  go_upto_region 6 with (go_at_call 40; (with_reducible refine (C5.out).mono ?_); rintro e w5 ⟨rfl, hb⟩; have B5 := hid (btr B4.out hb); clear hb)
  clear k0 C5
  obtain ⟨k0, k1, k2, k3, k4, k5, k6, k7, k8, k9, k10, k11, k12⟩ := row13 (HROW.out w5 B5.out)
  have C6 := hid (CR.out w5 B5.out)
  go_upto_region 7 with (go_at_call 41; (with_reducible refine (C6.out).mono ?_); rintro e w6 ⟨rfl, hb⟩; have B6 := hid (btr B5.out hb); clear hb)
  clear k0 k1 k2 k3 k4 k5 k6 k7 k8 k9 k10 k11 k12 C6
  have k0 := row_cell (HROW.out w6 B6.out) 0
  have C7 := hid (CL.out w6 B6.out)
  go_upto_region 8 with (go_at_call 42; (with_reducible refine (C7.out).mono ?_); rintro e w7 ⟨rfl, hb⟩; have B7 := hid (btr B6.out hb); clear hb)
  obtain ⟨W8, hW8⟩ : ∃ W, w7.alloc (.cells #[.int .u64 la.sq, .int .i64 la.kd, .int .i64 la.sd, .int .i64 la.pr, .int .u64 la.qt, .int .i64 la.ct] 48) = W := ⟨_, rfl⟩
  obtain ⟨D1, hD1⟩ : ∃ A, w7.heap.size = A := ⟨_, rfl⟩
  have B8 := hid (show Below w.heap.size w W8 from by rw [← hW8]; exact btr B7.out (ball _ _))
  have HD1 := hid (show W8.heap[D1]? = some (.cells #[.int .u64 la.sq, .int .i64 la.kd, .int .i64 la.sd, .int .i64 la.pr, .int .u64 la.qt, .int .i64 la.ct] 48 (0, 0)) from by rw [← hW8, ← hD1]; exact World.alloc_heap_new _ _)
  rw [hW8, hD1]
  clear hW8 hD1 k0 C7
  obtain ⟨k0, k1, k2, k3, k4, k5, k6, k7, k8, k9, k10, k11, k12⟩ := row13 (HROW.out W8 B8.out)
  go_upto_region 9 with (go_at_call 43; (with_reducible refine (CRL.out _).mono ?_); rintro e w9 ⟨rfl, hb⟩; have HD1a := hid (row_on HD1.out hb); have B9 := hid (btr B8.out hb); clear hb)
  obtain ⟨W9, hW9⟩ : ∃ W, w9.alloc (.cells #[.int .u64 la.sq, .int .i64 la.kd, .int .i64 la.sd, .int .i64 la.pr, .int .u64 la.qt, .int .i64 la.ct] 48) = W := ⟨_, rfl⟩
  obtain ⟨D2, hD2⟩ : ∃ A, w9.heap.size = A := ⟨_, rfl⟩
  have B10 := hid (show Below w.heap.size w W9 from by rw [← hW9]; exact btr B9.out (ball _ _))
  have HD2 := hid (show W9.heap[D2]? = some (.cells #[.int .u64 la.sq, .int .i64 la.kd, .int .i64 la.sd, .int .i64 la.pr, .int .u64 la.qt, .int .i64 la.ct] 48 (0, 0)) from by rw [← hW9, ← hD2]; exact World.alloc_heap_new _ _)
  have HD1b := hid (show W9.heap[D1]? = some (.cells #[.int .u64 la.sq, .int .i64 la.kd, .int .i64 la.sd, .int .i64 la.pr, .int .u64 la.qt, .int .i64 la.ct] 48 (0, 0)) from by rw [← hW9]; exact row_on HD1a.out (ball _ _))
  rw [hW9, hD2]
  clear hW9 hD2 k0 k1 k2 k3 k4 k5 k6 k7 k8 k9 k10 k11 k12
  have HRB := hid (HROW.out W9 B10.out)
  have eqd : ∀ U : World, (Op.equalIn 10000 48 (.agg #[.int .u64 la.sq, .int .i64 la.kd, .int .i64 la.sd, .int .i64 la.pr, .int .u64 la.qt, .int .i64 la.ct]) (.agg #[.int .u64 la.sq, .int .i64 la.kd, .int .i64 la.sd, .int .i64 la.pr, .int .u64 la.qt, .int .i64 la.ct])).run Try.prog U = .ok true U := fun U => eqD_same la U
  obtain ⟨V1, hV1⟩ : ∃ U, W9.drew = U := ⟨_, rfl⟩
  have BV1 := hid (show Below W9.heap.size W9 V1 from by rw [← hV1]; exact bdrew1 _)
  have r2 := hid (row_on HRB.out BV1.out)
  have r3 := hid (row_on HD1b.out BV1.out)
  have r4 := hid (row_on HD2.out BV1.out)
  refine wp_region_held_drew (S := (fun U => U.cell? ⟨B, 0, none⟩ = some (.pointer (some ⟨S, 0, none⟩)) ∧ U.cell? ⟨B, 1, none⟩ = some (.int .i64 hold) ∧ U.cell? ⟨B, 2, none⟩ = some (.int .u64 sq) ∧ U.cell? ⟨B, 3, none⟩ = some (.slice q1 n1 e1) ∧ U.cell? ⟨B, 4, none⟩ = some (.slice q2 n2 e2) ∧ U.cell? ⟨B, 5, none⟩ = some (.slice q3 n e3) ∧ U.cell? ⟨B, 6, none⟩ = some (.int .u64 gr) ∧ U.cell? ⟨B, 7, none⟩ = some (.int .u64 la.sq) ∧ U.cell? ⟨B, 8, none⟩ = some (.int .i64 la.kd) ∧ U.cell? ⟨B, 9, none⟩ = some (.int .i64 la.sd) ∧ U.cell? ⟨B, 10, none⟩ = some (.int .i64 la.pr) ∧ U.cell? ⟨B, 11, none⟩ = some (.int .u64 la.qt) ∧ U.cell? ⟨B, 12, none⟩ = some (.int .i64 la.ct) ∧ U.cell? ⟨D1, 0, none⟩ = some (.int .u64 la.sq) ∧ U.cell? ⟨D1, 1, none⟩ = some (.int .i64 la.kd) ∧ U.cell? ⟨D1, 2, none⟩ = some (.int .i64 la.sd) ∧ U.cell? ⟨D1, 3, none⟩ = some (.int .i64 la.pr) ∧ U.cell? ⟨D1, 4, none⟩ = some (.int .u64 la.qt) ∧ U.cell? ⟨D1, 5, none⟩ = some (.int .i64 la.ct) ∧ U.cell? ⟨D2, 0, none⟩ = some (.int .u64 la.sq) ∧ U.cell? ⟨D2, 1, none⟩ = some (.int .i64 la.kd) ∧ U.cell? ⟨D2, 2, none⟩ = some (.int .i64 la.sd) ∧ U.cell? ⟨D2, 3, none⟩ = some (.int .i64 la.pr) ∧ U.cell? ⟨D2, 4, none⟩ = some (.int .u64 la.qt) ∧ U.cell? ⟨D2, 5, none⟩ = some (.int .i64 la.ct))) (by kernel_rfl) ?_ (fun hHeld => ?_)
  · (try dsimp only); rw [hV1]; exact ⟨row_cell r2.out 0, row_cell r2.out 1, row_cell r2.out 2, row_cell r2.out 3, row_cell r2.out 4, row_cell r2.out 5, row_cell r2.out 6, row_cell r2.out 7, row_cell r2.out 8, row_cell r2.out 9, row_cell r2.out 10, row_cell r2.out 11, row_cell r2.out 12, row_cell r3.out 0, row_cell r3.out 1, row_cell r3.out 2, row_cell r3.out 3, row_cell r3.out 4, row_cell r3.out 5, row_cell r4.out 0, row_cell r4.out 1, row_cell r4.out 2, row_cell r4.out 3, row_cell r4.out 4, row_cell r4.out 5⟩
  rw [hV1] at hHeld ⊢
  clear hV1
  refine' wpAnyH_take (i := 0) (oi := _) (v := _) rfl (by kernel_rfl) (by kernel_rfl) (by kernel_rfl) (fun _ _ _ h => h) (Or.inl ⟨by kernel_rfl, ?_⟩) (by assumption) ?_
  rotate_left
  · (intro w hSw; (try dsimp only at hSw); go_simp; try (with_reducible rfl))
  try simp only [List.getElem_toArray, List.getElem_cons_succ, List.getElem_cons_zero, Act.put, List.setIfInBounds_toArray, List.set_cons_zero, List.set_cons_succ]
  refine' wpAnyH_take (i := 1) (oi := _) (v := _) rfl (by kernel_rfl) (by kernel_rfl) (by kernel_rfl) (fun _ _ _ h => h) (Or.inl ⟨by kernel_rfl, ?_⟩) (by assumption) ?_
  rotate_left
  · (intro w hSw; (try dsimp only at hSw); go_simp; try (with_reducible rfl))
  try simp only [List.getElem_toArray, List.getElem_cons_succ, List.getElem_cons_zero, Act.put, List.setIfInBounds_toArray, List.set_cons_zero, List.set_cons_succ]
  refine' wpAnyH_take (i := 2) (oi := _) (v := _) rfl (by kernel_rfl) (by kernel_rfl) (by kernel_rfl) (fun _ _ _ h => h) (Or.inl ⟨by kernel_rfl, ?_⟩) (by assumption) ?_
  rotate_left
  · (intro w hSw; (try dsimp only at hSw); go_simp; try (with_reducible rfl))
  try simp only [List.getElem_toArray, List.getElem_cons_succ, List.getElem_cons_zero, Act.put, List.setIfInBounds_toArray, List.set_cons_zero, List.set_cons_succ]
  refine' wpAnyH_take (i := 3) (oi := _) (v := _) rfl (by kernel_rfl) (by kernel_rfl) (by kernel_rfl) (fun _ _ _ h => h) (Or.inl ⟨by kernel_rfl, ?_⟩) (by assumption) ?_
  rotate_left
  · (intro w hSw; (try dsimp only at hSw); go_simp; try (with_reducible rfl))
  try simp only [List.getElem_toArray, List.getElem_cons_succ, List.getElem_cons_zero, Act.put, List.setIfInBounds_toArray, List.set_cons_zero, List.set_cons_succ]
  refine' wpAnyH_take (i := 5) (oi := _) (v := _) rfl (by kernel_rfl) (by kernel_rfl) (by kernel_rfl) (fun _ _ _ h => h) (Or.inl ⟨by kernel_rfl, ?_⟩) (by assumption) ?_
  rotate_left
  · (intro w hSw; (try dsimp only at hSw); go_simp; try (with_reducible rfl))
  try simp only [List.getElem_toArray, List.getElem_cons_succ, List.getElem_cons_zero, Act.put, List.setIfInBounds_toArray, List.set_cons_zero, List.set_cons_succ]
  refine' wpAnyH_take (i := 6) (oi := _) (v := _) rfl (by kernel_rfl) (by kernel_rfl) (by kernel_rfl) (fun _ _ _ h => h) (Or.inl ⟨by kernel_rfl, ?_⟩) (by assumption) ?_
  rotate_left
  · (intro w hSw; (try dsimp only at hSw); go_simp; try (with_reducible rfl))
  try simp only [List.getElem_toArray, List.getElem_cons_succ, List.getElem_cons_zero, Act.put, List.setIfInBounds_toArray, List.set_cons_zero, List.set_cons_succ]
  refine' wpAnyH_take (i := 7) (oi := _) (v := _) rfl (by kernel_rfl) (by kernel_rfl) (by kernel_rfl) (fun _ _ _ h => h) (Or.inl ⟨by kernel_rfl, ?_⟩) (by assumption) ?_
  rotate_left
  · (intro w hSw; (try dsimp only at hSw); go_simp; try (with_reducible rfl))
  try simp only [List.getElem_toArray, List.getElem_cons_succ, List.getElem_cons_zero, Act.put, List.setIfInBounds_toArray, List.set_cons_zero, List.set_cons_succ]
  refine' wpAnyH_take (i := 8) (oi := _) (v := _) rfl (by kernel_rfl) (by kernel_rfl) (by kernel_rfl) (fun _ _ _ h => h) (Or.inl ⟨by kernel_rfl, ?_⟩) (by assumption) ?_
  rotate_left
  · (intro w hSw; (try dsimp only at hSw); go_simp; try (with_reducible rfl))
  try simp only [List.getElem_toArray, List.getElem_cons_succ, List.getElem_cons_zero, Act.put, List.setIfInBounds_toArray, List.set_cons_zero, List.set_cons_succ]
  refine' wpAnyH_take (i := 9) (oi := _) (v := _) rfl (by kernel_rfl) (by kernel_rfl) (by kernel_rfl) (fun _ _ _ h => h) (Or.inl ⟨by kernel_rfl, ?_⟩) (by assumption) ?_
  rotate_left
  · (intro w hSw; (try dsimp only at hSw); go_simp; try (with_reducible rfl))
  try simp only [List.getElem_toArray, List.getElem_cons_succ, List.getElem_cons_zero, Act.put, List.setIfInBounds_toArray, List.set_cons_zero, List.set_cons_succ]
  refine wpAnyH_ready (rs := [4]) (by kernel_rfl) (by simp) ?_
  refine (AllReadyH.cons (o := _) rfl (fun K hK => ?_) AllReadyH.nil)
  go_simp
  go_at_call 39
  with_reducible refine (CP.out V1 (btr B10.out BV1.out)).mono ?_
  rintro e X5 ⟨u1, f1, u2, f2, rfl, L1, L2, _, DbX5⟩
  have r6 := hid (row_on r2.out DbX5.out)
  have r7 := hid (row_on r3.out DbX5.out)
  have r8 := hid (row_on r4.out DbX5.out)
  have DX5 := hid (btr BV1.out DbX5.out)
  have UX5 := hid (BV1.out.size)
  (try go_wp2_with fail)
  refine hK.out _ _ ?_ (fun hHeld => ?_)
  · (try dsimp only); exact ⟨row_cell r6.out 0, row_cell r6.out 1, row_cell r6.out 2, row_cell r6.out 3, row_cell r6.out 4, row_cell r6.out 5, row_cell r6.out 6, row_cell r6.out 7, row_cell r6.out 8, row_cell r6.out 9, row_cell r6.out 10, row_cell r6.out 11, row_cell r6.out 12, row_cell r7.out 0, row_cell r7.out 1, row_cell r7.out 2, row_cell r7.out 3, row_cell r7.out 4, row_cell r7.out 5, row_cell r8.out 0, row_cell r8.out 1, row_cell r8.out 2, row_cell r8.out 3, row_cell r8.out 4, row_cell r8.out 5⟩
  clear hK K
  try simp only [List.getElem_toArray, List.getElem_cons_succ, List.getElem_cons_zero, Act.put, List.setIfInBounds_toArray, List.set_cons_zero, List.set_cons_succ]
  refine wpAnyH_ready (rs := [10]) (by kernel_rfl) (by simp) ?_
  refine (AllReadyH.cons (o := _) rfl (fun K hK => ?_) AllReadyH.nil)
  go_simp
  go_at_call 16
  with_reducible refine (CS.out X5 (btr B10.out DX5.out) u1 u2 f1 f2 L1.out.rl L2.out.rl).mono ?_
  rintro e X9 ⟨rfl, DbX9⟩
  have r10 := hid (row_on r6.out DbX9.out)
  have r11 := hid (row_on r7.out DbX9.out)
  have r12 := hid (row_on r8.out DbX9.out)
  have DX9 := hid (btr DX5.out DbX9.out)
  have UX9 := hid (DX5.out.size)
  (try go_wp2_with fail)
  refine hK.out _ _ ?_ (fun hHeld => ?_)
  · (try dsimp only); exact ⟨row_cell r10.out 0, row_cell r10.out 1, row_cell r10.out 2, row_cell r10.out 3, row_cell r10.out 4, row_cell r10.out 5, row_cell r10.out 6, row_cell r10.out 7, row_cell r10.out 8, row_cell r10.out 9, row_cell r10.out 10, row_cell r10.out 11, row_cell r10.out 12, row_cell r11.out 0, row_cell r11.out 1, row_cell r11.out 2, row_cell r11.out 3, row_cell r11.out 4, row_cell r11.out 5, row_cell r12.out 0, row_cell r12.out 1, row_cell r12.out 2, row_cell r12.out 3, row_cell r12.out 4, row_cell r12.out 5⟩
  clear hK K
  try simp only [List.getElem_toArray, List.getElem_cons_succ, List.getElem_cons_zero, Act.put, List.setIfInBounds_toArray, List.set_cons_zero, List.set_cons_succ]
  refine' wpAnyH_take (i := 11) (oi := _) (v := _) rfl (by kernel_rfl) (by kernel_rfl) (by kernel_rfl) (fun _ _ _ h => h) (Or.inl ⟨by kernel_rfl, ?_⟩) (by assumption) ?_
  rotate_left
  · (intro w hSw; (try dsimp only at hSw); go_simp; try (with_reducible rfl))
  try simp only [List.getElem_toArray, List.getElem_cons_succ, List.getElem_cons_zero, Act.put, List.setIfInBounds_toArray, List.set_cons_zero, List.set_cons_succ]
  refine' wpAnyH_take (i := 12) (oi := _) (v := _) rfl (by kernel_rfl) (by kernel_rfl) (by kernel_rfl) (fun _ _ _ h => h) (Or.inl ⟨by kernel_rfl, ?_⟩) (by assumption) ?_
  rotate_left
  · (intro w hSw; (try dsimp only at hSw); go_simp; try (with_reducible rfl))
  try simp only [List.getElem_toArray, List.getElem_cons_succ, List.getElem_cons_zero, Act.put, List.setIfInBounds_toArray, List.set_cons_zero, List.set_cons_succ]
  refine' wpAnyH_take (i := 13) (oi := _) (v := _) rfl (by kernel_rfl) (by kernel_rfl) (by kernel_rfl) (fun _ _ _ h => h) (Or.inl ⟨by kernel_rfl, ?_⟩) (by assumption) ?_
  rotate_left
  · (intro w hSw; (try dsimp only at hSw); go_simp; try (with_reducible rfl))
  try simp only [List.getElem_toArray, List.getElem_cons_succ, List.getElem_cons_zero, Act.put, List.setIfInBounds_toArray, List.set_cons_zero, List.set_cons_succ]
  refine' wpAnyH_take (i := 14) (oi := _) (v := _) rfl (by kernel_rfl) (by kernel_rfl) (by kernel_rfl) (fun _ _ _ h => h) (Or.inl ⟨by kernel_rfl, ?_⟩) (by assumption) ?_
  rotate_left
  · (intro w hSw; (try dsimp only at hSw); go_simp; try (with_reducible rfl))
  try simp only [List.getElem_toArray, List.getElem_cons_succ, List.getElem_cons_zero, Act.put, List.setIfInBounds_toArray, List.set_cons_zero, List.set_cons_succ]
  refine' wpAnyH_take (i := 15) (oi := _) (v := _) rfl (by kernel_rfl) (by kernel_rfl) (by kernel_rfl) (fun _ _ _ h => h) (Or.inl ⟨by kernel_rfl, ?_⟩) (by assumption) ?_
  rotate_left
  · (intro w hSw; (try dsimp only at hSw); go_simp; try (with_reducible rfl))
  try simp only [List.getElem_toArray, List.getElem_cons_succ, List.getElem_cons_zero, Act.put, List.setIfInBounds_toArray, List.set_cons_zero, List.set_cons_succ]
  refine' wpAnyH_take (i := 17) (oi := _) (v := _) rfl (by kernel_rfl) (by kernel_rfl) (by kernel_rfl) (fun _ _ _ h => h) (Or.inl ⟨by kernel_rfl, ?_⟩) (by assumption) ?_
  rotate_left
  · (intro w hSw; (try dsimp only at hSw); go_simp; try (with_reducible rfl))
  try simp only [List.getElem_toArray, List.getElem_cons_succ, List.getElem_cons_zero, Act.put, List.setIfInBounds_toArray, List.set_cons_zero, List.set_cons_succ]
  refine' wpAnyH_take (i := 18) (oi := _) (v := _) rfl (by kernel_rfl) (by kernel_rfl) (by kernel_rfl) (fun _ _ _ h => h) (Or.inl ⟨by kernel_rfl, ?_⟩) (by assumption) ?_
  rotate_left
  · (intro w hSw; (try dsimp only at hSw); go_simp; try (with_reducible rfl))
  try simp only [List.getElem_toArray, List.getElem_cons_succ, List.getElem_cons_zero, Act.put, List.setIfInBounds_toArray, List.set_cons_zero, List.set_cons_succ]
  refine' wpAnyH_take (i := 19) (oi := _) (v := _) rfl (by kernel_rfl) (by kernel_rfl) (by kernel_rfl) (fun _ _ _ h => h) (Or.inl ⟨by kernel_rfl, ?_⟩) (by assumption) ?_
  rotate_left
  · (intro w hSw; (try dsimp only at hSw); go_simp; try (with_reducible rfl))
  try simp only [List.getElem_toArray, List.getElem_cons_succ, List.getElem_cons_zero, Act.put, List.setIfInBounds_toArray, List.set_cons_zero, List.set_cons_succ]
  refine' wpAnyH_take (i := 20) (oi := _) (v := _) rfl (by kernel_rfl) (by kernel_rfl) (by kernel_rfl) (fun _ _ _ h => h) (Or.inl ⟨by kernel_rfl, ?_⟩) (by assumption) ?_
  rotate_left
  · (intro w hSw; (try dsimp only at hSw); go_simp; try (with_reducible rfl))
  try simp only [List.getElem_toArray, List.getElem_cons_succ, List.getElem_cons_zero, Act.put, List.setIfInBounds_toArray, List.set_cons_zero, List.set_cons_succ]
  refine wpAnyH_ready (rs := [16]) (by kernel_rfl) (by simp) ?_
  refine (AllReadyH.cons (o := _) rfl (fun K hK => ?_) AllReadyH.nil)
  go_simp
  go_at_call 44
  with_reducible refine (CG.out X9 (btr B10.out DX9.out)).mono ?_
  rintro e X13 ⟨rfl, DbX13⟩
  have r14 := hid (row_on r10.out DbX13.out)
  have r15 := hid (row_on r11.out DbX13.out)
  have r16 := hid (row_on r12.out DbX13.out)
  have DX13 := hid (btr DX9.out DbX13.out)
  have UX13 := hid (DX9.out.size)
  (try go_wp2_with fail)
  refine hK.out _ _ ?_ (fun hHeld => ?_)
  · (try dsimp only); exact ⟨row_cell r14.out 0, row_cell r14.out 1, row_cell r14.out 2, row_cell r14.out 3, row_cell r14.out 4, row_cell r14.out 5, row_cell r14.out 6, row_cell r14.out 7, row_cell r14.out 8, row_cell r14.out 9, row_cell r14.out 10, row_cell r14.out 11, row_cell r14.out 12, row_cell r15.out 0, row_cell r15.out 1, row_cell r15.out 2, row_cell r15.out 3, row_cell r15.out 4, row_cell r15.out 5, row_cell r16.out 0, row_cell r16.out 1, row_cell r16.out 2, row_cell r16.out 3, row_cell r16.out 4, row_cell r16.out 5⟩
  clear hK K
  try simp only [List.getElem_toArray, List.getElem_cons_succ, List.getElem_cons_zero, Act.put, List.setIfInBounds_toArray, List.set_cons_zero, List.set_cons_succ]
  refine wpAnyH_ready (rs := [21]) (by kernel_rfl) (by simp) ?_
  refine (AllReadyH.cons (o := _) rfl (fun K hK => ?_) AllReadyH.nil)
  go_simp
  go_at_call 45
  with_reducible refine (CRG.out X13).mono ?_
  rintro e X17 ⟨rfl, DbX17⟩
  have r18 := hid (row_on r14.out DbX17.out)
  have r19 := hid (row_on r15.out DbX17.out)
  have r20 := hid (row_on r16.out DbX17.out)
  have DX17 := hid (btr DX13.out DbX17.out)
  have UX17 := hid (DX13.out.size)
  (try go_wp2_with fail)
  refine hK.out _ _ ?_ (fun hHeld => ?_)
  · (try dsimp only); exact ⟨row_cell r18.out 0, row_cell r18.out 1, row_cell r18.out 2, row_cell r18.out 3, row_cell r18.out 4, row_cell r18.out 5, row_cell r18.out 6, row_cell r18.out 7, row_cell r18.out 8, row_cell r18.out 9, row_cell r18.out 10, row_cell r18.out 11, row_cell r18.out 12, row_cell r19.out 0, row_cell r19.out 1, row_cell r19.out 2, row_cell r19.out 3, row_cell r19.out 4, row_cell r19.out 5, row_cell r20.out 0, row_cell r20.out 1, row_cell r20.out 2, row_cell r20.out 3, row_cell r20.out 4, row_cell r20.out 5⟩
  clear hK K
  try simp only [List.getElem_toArray, List.getElem_cons_succ, List.getElem_cons_zero, Act.put, List.setIfInBounds_toArray, List.set_cons_zero, List.set_cons_succ]
  refine' wpAnyH_take (i := 22) (oi := _) (v := _) rfl (by kernel_rfl) (by kernel_rfl) (by kernel_rfl) (fun _ _ _ h => h) (Or.inl ⟨by kernel_rfl, ?_⟩) (by assumption) ?_
  rotate_left
  · (intro w hSw; (try dsimp only at hSw); go_simp; try (with_reducible rfl))
  try simp only [List.getElem_toArray, List.getElem_cons_succ, List.getElem_cons_zero, Act.put, List.setIfInBounds_toArray, List.set_cons_zero, List.set_cons_succ]
  refine' wpAnyH_take (i := 23) (oi := _) (v := _) rfl (by kernel_rfl) (by kernel_rfl) (by kernel_rfl) (fun _ _ _ h => h) (Or.inl ⟨by kernel_rfl, ?_⟩) (by assumption) ?_
  rotate_left
  · (intro w hSw; (try dsimp only at hSw); go_simp; try (with_reducible rfl))
  try simp only [List.getElem_toArray, List.getElem_cons_succ, List.getElem_cons_zero, Act.put, List.setIfInBounds_toArray, List.set_cons_zero, List.set_cons_succ]
  refine' wpAnyH_take (i := 24) (oi := _) (v := _) rfl (by kernel_rfl) (by kernel_rfl) (by kernel_rfl) (fun _ _ _ h => h) (Or.inl ⟨by kernel_rfl, ?_⟩) (by assumption) ?_
  rotate_left
  · (intro w hSw; (try dsimp only at hSw); go_simp; try (with_reducible rfl))
  try simp only [List.getElem_toArray, List.getElem_cons_succ, List.getElem_cons_zero, Act.put, List.setIfInBounds_toArray, List.set_cons_zero, List.set_cons_succ]
  refine' wpAnyH_take (i := 25) (oi := _) (v := _) rfl (by kernel_rfl) (by kernel_rfl) (by kernel_rfl) (fun _ _ _ h => h) (Or.inl ⟨by kernel_rfl, ?_⟩) (by assumption) ?_
  rotate_left
  · (intro w hSw; (try dsimp only at hSw); go_simp; try (with_reducible rfl))
  try simp only [List.getElem_toArray, List.getElem_cons_succ, List.getElem_cons_zero, Act.put, List.setIfInBounds_toArray, List.set_cons_zero, List.set_cons_succ]
  refine' wpAnyH_take (i := 26) (oi := _) (v := _) rfl (by kernel_rfl) (by kernel_rfl) (by kernel_rfl) (fun _ _ _ h => h) (Or.inl ⟨by kernel_rfl, ?_⟩) (by assumption) ?_
  rotate_left
  · (intro w hSw; (try dsimp only at hSw); go_simp; try (with_reducible rfl))
  try simp only [List.getElem_toArray, List.getElem_cons_succ, List.getElem_cons_zero, Act.put, List.setIfInBounds_toArray, List.set_cons_zero, List.set_cons_succ]
  refine' wpAnyH_take (i := 27) (oi := _) (v := _) rfl (by kernel_rfl) (by kernel_rfl) (by kernel_rfl) (fun _ _ _ h => h) (Or.inl ⟨by kernel_rfl, ?_⟩) (by assumption) ?_
  rotate_left
  · (intro w hSw; (try dsimp only at hSw); go_simp; try (with_reducible rfl))
  try simp only [List.getElem_toArray, List.getElem_cons_succ, List.getElem_cons_zero, Act.put, List.setIfInBounds_toArray, List.set_cons_zero, List.set_cons_succ]
  refine' wpAnyH_take (i := 28) (oi := _) (v := _) rfl (by kernel_rfl) (by kernel_rfl) (by kernel_rfl) (fun _ _ _ h => h) (Or.inl ⟨by kernel_rfl, ?_⟩) (by assumption) ?_
  rotate_left
  · (intro w hSw; (try dsimp only at hSw); go_simp; try (with_reducible rfl))
  try simp only [List.getElem_toArray, List.getElem_cons_succ, List.getElem_cons_zero, Act.put, List.setIfInBounds_toArray, List.set_cons_zero, List.set_cons_succ]
  refine' wpAnyH_take (i := 29) (oi := _) (v := _) rfl (by kernel_rfl) (by kernel_rfl) (by kernel_rfl) (fun _ _ _ h => h) (Or.inl ⟨by kernel_rfl, ?_⟩) (by assumption) ?_
  rotate_left
  · (intro w hSw; (try dsimp only at hSw); go_simp; try (with_reducible rfl))
  try simp only [List.getElem_toArray, List.getElem_cons_succ, List.getElem_cons_zero, Act.put, List.setIfInBounds_toArray, List.set_cons_zero, List.set_cons_succ]
  refine' wpAnyH_take (i := 30) (oi := _) (v := _) rfl (by kernel_rfl) (by kernel_rfl) (by kernel_rfl) (fun _ _ _ h => h) (Or.inl ⟨by kernel_rfl, ?_⟩) (by assumption) ?_
  rotate_left
  · (intro w hSw; (try dsimp only at hSw); go_simp; try (with_reducible rfl))
  try simp only [List.getElem_toArray, List.getElem_cons_succ, List.getElem_cons_zero, Act.put, List.setIfInBounds_toArray, List.set_cons_zero, List.set_cons_succ]
  refine' wpAnyH_take (i := 31) (oi := _) (v := _) rfl (by kernel_rfl) (by kernel_rfl) (by kernel_rfl) (fun _ _ _ h => h) (Or.inl ⟨by kernel_rfl, ?_⟩) (by assumption) ?_
  rotate_left
  · (intro w hSw; (try dsimp only at hSw); go_simp; try (with_reducible rfl))
  try simp only [List.getElem_toArray, List.getElem_cons_succ, List.getElem_cons_zero, Act.put, List.setIfInBounds_toArray, List.set_cons_zero, List.set_cons_succ]
  refine' wpAnyH_take (i := 32) (oi := _) (v := _) rfl (by kernel_rfl) (by kernel_rfl) (by kernel_rfl) (fun _ _ _ h => h) (Or.inl ⟨by kernel_rfl, ?_⟩) (by assumption) ?_
  rotate_left
  · (intro w hSw; (try dsimp only at hSw); go_simp; try (with_reducible rfl))
  try simp only [List.getElem_toArray, List.getElem_cons_succ, List.getElem_cons_zero, Act.put, List.setIfInBounds_toArray, List.set_cons_zero, List.set_cons_succ]
  refine' wpAnyH_take (i := 33) (oi := _) (v := _) rfl (by kernel_rfl) (by kernel_rfl) (by kernel_rfl) (fun _ _ _ h => h) (Or.inl ⟨by kernel_rfl, ?_⟩) (by assumption) ?_
  rotate_left
  · (intro w hSw; (try dsimp only at hSw); go_simp; try (with_reducible rfl))
  try simp only [List.getElem_toArray, List.getElem_cons_succ, List.getElem_cons_zero, Act.put, List.setIfInBounds_toArray, List.set_cons_zero, List.set_cons_succ]
  refine' wpAnyH_take (i := 34) (oi := _) (v := _) rfl (by kernel_rfl) (by kernel_rfl) (by kernel_rfl) (fun _ _ _ h => h) (Or.inl ⟨by kernel_rfl, ?_⟩) (by assumption) ?_
  rotate_left
  · (intro w hSw; (try dsimp only at hSw); go_simp; try (with_reducible rfl))
  try simp only [List.getElem_toArray, List.getElem_cons_succ, List.getElem_cons_zero, Act.put, List.setIfInBounds_toArray, List.set_cons_zero, List.set_cons_succ]
  refine' wpAnyH_take (i := 35) (oi := _) (v := _) rfl (by kernel_rfl) (by kernel_rfl) (by kernel_rfl) (fun _ _ _ h => h) (Or.inl ⟨by kernel_rfl, ?_⟩) (by assumption) ?_
  rotate_left
  · (intro w hSw; (try dsimp only at hSw); go_simp; try (with_reducible rfl))
  try simp only [List.getElem_toArray, List.getElem_cons_succ, List.getElem_cons_zero, Act.put, List.setIfInBounds_toArray, List.set_cons_zero, List.set_cons_succ]
  refine' wpAnyH_take (i := 36) (oi := _) (v := _) rfl (by kernel_rfl) (by kernel_rfl) (by kernel_rfl) (fun _ _ _ h => h) (Or.inl ⟨by kernel_rfl, ?_⟩) (by assumption) ?_
  rotate_left
  · (intro w hSw; (try dsimp only at hSw); go_simp; try (with_reducible rfl))
  try simp only [List.getElem_toArray, List.getElem_cons_succ, List.getElem_cons_zero, Act.put, List.setIfInBounds_toArray, List.set_cons_zero, List.set_cons_succ]
  refine' wpAnyH_take (i := 37) (oi := _) (v := _) rfl (by kernel_rfl) (by kernel_rfl) (by kernel_rfl) (fun _ _ _ h => h) (Or.inl ⟨by kernel_rfl, ?_⟩) (by assumption) ?_
  rotate_left
  · (intro w hSw; (try dsimp only at hSw); go_simp; try (with_reducible rfl))
  try simp only [List.getElem_toArray, List.getElem_cons_succ, List.getElem_cons_zero, Act.put, List.setIfInBounds_toArray, List.set_cons_zero, List.set_cons_succ]
  refine' wpAnyH_take (i := 38) (oi := _) (v := _) rfl (by kernel_rfl) (by kernel_rfl) (by kernel_rfl) (fun _ _ _ h => h) (Or.inl ⟨by kernel_rfl, ?_⟩) (by assumption) ?_
  rotate_left
  · (intro w hSw; (try dsimp only at hSw); go_simp; try (with_reducible rfl))
  try simp only [List.getElem_toArray, List.getElem_cons_succ, List.getElem_cons_zero, Act.put, List.setIfInBounds_toArray, List.set_cons_zero, List.set_cons_succ]
  refine' wpAnyH_take (i := 39) (oi := _) (v := _) rfl (by kernel_rfl) (by kernel_rfl) (by kernel_rfl) (fun _ _ _ h => h) (Or.inl ⟨by kernel_rfl, ?_⟩) (by assumption) ?_
  rotate_left
  · (intro w hSw; (try dsimp only at hSw); go_simp; try (with_reducible rfl))
  try simp only [List.getElem_toArray, List.getElem_cons_succ, List.getElem_cons_zero, Act.put, List.setIfInBounds_toArray, List.set_cons_zero, List.set_cons_succ]
  refine' wpAnyH_take (i := 40) (oi := _) (v := _) rfl (by kernel_rfl) (by kernel_rfl) (by kernel_rfl) (fun _ _ _ h => h) (Or.inl ⟨by kernel_rfl, ?_⟩) (by assumption) ?_
  rotate_left
  · (intro w hSw; (try dsimp only at hSw); go_simp; try (with_reducible rfl))
  try simp only [List.getElem_toArray, List.getElem_cons_succ, List.getElem_cons_zero, Act.put, List.setIfInBounds_toArray, List.set_cons_zero, List.set_cons_succ]
  refine' wpAnyH_take (i := 41) (oi := _) (v := _) rfl (by kernel_rfl) (by kernel_rfl) (by kernel_rfl) (fun _ _ _ h => h) (Or.inl ⟨by kernel_rfl, ?_⟩) (by assumption) ?_
  rotate_left
  · (intro w hSw; (try dsimp only at hSw); go_simp; try (with_reducible rfl))
  try simp only [List.getElem_toArray, List.getElem_cons_succ, List.getElem_cons_zero, Act.put, List.setIfInBounds_toArray, List.set_cons_zero, List.set_cons_succ]
  refine' wpAnyH_take (i := 42) (oi := _) (v := _) rfl (by kernel_rfl) (by kernel_rfl) (by kernel_rfl) (fun _ _ _ h => h) (Or.inl ⟨by kernel_rfl, ?_⟩) (by assumption) ?_
  rotate_left
  · (intro w hSw; (try dsimp only at hSw); go_simp; try (with_reducible rfl))
  try simp only [List.getElem_toArray, List.getElem_cons_succ, List.getElem_cons_zero, Act.put, List.setIfInBounds_toArray, List.set_cons_zero, List.set_cons_succ]
  refine' wpAnyH_take (i := 43) (oi := _) (v := _) rfl (by kernel_rfl) (by kernel_rfl) (by kernel_rfl) (fun _ _ _ h => h) (Or.inl ⟨by kernel_rfl, ?_⟩) (by assumption) ?_
  rotate_left
  · (intro w hSw; (try dsimp only at hSw); go_simp; try (with_reducible rfl))
  try simp only [List.getElem_toArray, List.getElem_cons_succ, List.getElem_cons_zero, Act.put, List.setIfInBounds_toArray, List.set_cons_zero, List.set_cons_succ]
  refine' wpAnyH_take (i := 44) (oi := _) (v := _) rfl (by kernel_rfl) (by kernel_rfl) (by kernel_rfl) (fun _ _ _ h => h) (Or.inl ⟨by kernel_rfl, ?_⟩) (by assumption) ?_
  rotate_left
  · (intro w hSw; (try dsimp only at hSw); go_simp; try (with_reducible rfl))
  try simp only [List.getElem_toArray, List.getElem_cons_succ, List.getElem_cons_zero, Act.put, List.setIfInBounds_toArray, List.set_cons_zero, List.set_cons_succ]
  refine' wpAnyH_take (i := 45) (oi := _) (v := _) rfl (by kernel_rfl) (by kernel_rfl) (by kernel_rfl) (fun _ _ _ h => h) (Or.inl ⟨by kernel_rfl, ?_⟩) (by assumption) ?_
  rotate_left
  · (intro w hSw; (try dsimp only at hSw); go_simp; try (with_reducible rfl))
  try simp only [List.getElem_toArray, List.getElem_cons_succ, List.getElem_cons_zero, Act.put, List.setIfInBounds_toArray, List.set_cons_zero, List.set_cons_succ]
  refine' wpAnyH_take (i := 46) (oi := _) (v := _) rfl (by kernel_rfl) (by kernel_rfl) (by kernel_rfl) (fun _ _ _ h => h) (Or.inl ⟨by kernel_rfl, ?_⟩) (by assumption) ?_
  rotate_left
  · (intro w hSw; (try dsimp only at hSw); go_simp; try (with_reducible rfl))
  try simp only [List.getElem_toArray, List.getElem_cons_succ, List.getElem_cons_zero, Act.put, List.setIfInBounds_toArray, List.set_cons_zero, List.set_cons_succ]
  refine' wpAnyH_take (i := 47) (oi := _) (v := _) rfl (by kernel_rfl) (by kernel_rfl) (by kernel_rfl) (fun _ _ _ h => h) (Or.inl ⟨by kernel_rfl, ?_⟩) (by assumption) ?_
  rotate_left
  · (intro w hSw; (try dsimp only at hSw); go_simp; try (with_reducible rfl))
  try simp only [List.getElem_toArray, List.getElem_cons_succ, List.getElem_cons_zero, Act.put, List.setIfInBounds_toArray, List.set_cons_zero, List.set_cons_succ]
  refine' wpAnyH_take (i := 48) (oi := _) (v := _) rfl (by kernel_rfl) (by kernel_rfl) (by kernel_rfl) (fun _ _ _ h => h) (Or.inl ⟨by kernel_rfl, ?_⟩) (by assumption) ?_
  rotate_left
  · (intro w hSw; (try dsimp only at hSw); go_simp; try (with_reducible rfl))
  try simp only [List.getElem_toArray, List.getElem_cons_succ, List.getElem_cons_zero, Act.put, List.setIfInBounds_toArray, List.set_cons_zero, List.set_cons_succ]
  refine' wpAnyH_take (i := 49) (oi := _) (v := _) rfl (by kernel_rfl) (by kernel_rfl) (by kernel_rfl) (fun _ _ _ h => h) (Or.inl ⟨by kernel_rfl, ?_⟩) (by assumption) ?_
  rotate_left
  · (intro w hSw; (try dsimp only at hSw); go_simp; try (with_reducible rfl))
  try simp only [List.getElem_toArray, List.getElem_cons_succ, List.getElem_cons_zero, Act.put, List.setIfInBounds_toArray, List.set_cons_zero, List.set_cons_succ]
  refine wpAnyH_done (by kernel_rfl) ?_ _
  go_wp2
  go_ret
  exact ⟨by simp, btr B10.out DX17.out⟩
end Go.Proofs.Ytiphgfghdbmlcaa
