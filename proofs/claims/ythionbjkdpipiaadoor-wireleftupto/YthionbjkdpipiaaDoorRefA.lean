/-
  Contracts: bourseref02.Bytes, bourseref02.Pack.
-/
import Derived.Test.YthionbjkdpipiaaDoorPackB
import Derived.Laws.AppendOwn
import Derived.Laws.OwnMore
import Derived.OwnWalk
namespace Go.Proofs.YthionbjkdpipiaaDoor
open Go.RowKit Go.Deep Crc
set_option linter.unusedVariables false

theorem info5all : (Tryd.prog.info? 5).map (fun i => (i.zero, i.size, i.bytes)) = some (some (.int .u8 0), 1, 1) := by kernel_rfl
theorem info_parts {t : TypeId} {z : Value} {a b : Nat} (h : (Tryd.prog.info? t).map (fun i => (i.zero, i.size, i.bytes)) = some (some z, a, b)) : ∃ i, Tryd.prog.info? t = some i ∧ i.zero = some z ∧ i.size = a ∧ i.bytes = b := by
  cases hq : Tryd.prog.info? t with
  | none => rw [hq] at h; simp at h
  | some i => rw [hq] at h; simp at h; exact ⟨i, rfl, h.1, h.2.1, h.2.2⟩
theorem cell_new1 (w : World) (x : Value) (t : TypeId) : ∀ (j : Nat) (u : Value), [x][j]? = some u → (w.alloc (.cells #[x] t)).cell? ((⟨w.heap.size, 0, none⟩ : Addr).add j) = some u := by
  intro j u hj
  match j, hj with
  | 0, hj => simp at hj; subst hj; simp [Addr.add, go_sem]

/-- the bytes gathered so far, and the frame. -/
def ByR (w : World) (G : Array Value) (xs : List Nat) (v : Value) (wr : World) : Prop :=
  wr.ownsRow (w.heap.size + 1) 5 1 v xs.length (bv xs) ∧ wr.heap[w.heap.size]? = some (.cells G 31 (0, 0)) ∧ Below w.heap.size w wr
theorem byR_step {w wr w1 : World} {G : Array Value} {xs : List Nat} {v v' : Value} {y : Nat} {o : Obj} (h1 : wr.ownsRow (w.heap.size + 1) 5 1 v xs.length (bv xs)) (h2 : wr.heap[w.heap.size]? = some (.cells G 31 (0, 0))) (h3 : Below w.heap.size w wr)
    {n : Nat} (hown : w1.ownsRow (w.heap.size + 1) 5 1 v' n (bv xs ++ [.int .u8 (y : Nat)])) (hn : n = xs.length + 1) (hg : (wr.alloc o).grownBy w1 v.ownBlock) : ByR w G (xs ++ [y]) v' w1 := by
  subst hn
  refine ⟨?_, ?_, ?_⟩
  · rw [bv_append, List.length_append]; exact hown
  · have hlt : w.heap.size < wr.heap.size := (Array.getElem?_eq_some_iff.1 h2).1
    have := hg.block w.heap.size (by simp; omega) (fun e => by have := (h1.lt _ e.symm).1; omega)
    rw [this, heap_alloc_old _ _ hlt]
    exact h2
  · have hlt : w.heap.size < wr.heap.size := (Array.getElem?_eq_some_iff.1 h2).1
    exact (h3.alloc h3.size o).grown hg (by simp; omega) (fun j hj => by have := (h1.lt j hj).1; omega)

set_option maxHeartbeats 2000000 in
set_option maxRecDepth 100000 in
theorem bytes_any (k w0 w1 w2 w3 w4 w5 w6 : Nat) (w : World) (hw : ∀ x ∈ [w0, w1, w2, w3, w4, w5, w6], x < 18446744073709551616) :
    Calls Tryd.prog 28 #[fv k w0 w1 w2 w3 w4 w5 w6] w fun e w' => ∃ v, e = .returned v ∧ w'.ownsRow (w.heap.size + 1) 5 1 v 60 (bv (body k [w0, w1, w2, w3, w4, w5, w6])) ∧ Below w.heap.size w w' := by
  obtain ⟨i0, hi, hz0, hz1, hz2⟩ := info_parts info5all
  have I0 := hid hi
  have I1 := hid hz0
  have I2 := hid hz1
  have I3 := hid hz2
  have HW := hid hw
  clear hi hz0 hz1 hz2 hw
  unfold fv
  go_enter Tryd.func28, Tryd.ntmps28
  go_wp2
  go_loopw [3, 4, 5] (fun v iv _ wr => ∃ i : Nat, i ≤ 7 ∧ iv = .int .i64 i ∧ Hid (ByR w #[.int .u8 (k : Nat), .int .u64 (w0 : Nat), .int .u64 (w1 : Nat), .int .u64 (w2 : Nat), .int .u64 (w3 : Nat), .int .u64 (w4 : Nat), .int .u64 (w5 : Nat), .int .u64 (w6 : Nat)] (pre k [w0, w1, w2, w3, w4, w5, w6] i) v wr)) (fun _ iv _ _ => 7 - (intOf iv).toNat)
  case atStart =>
    refine ⟨0, by omega, rfl, ?_⟩
    have h := World.ownsRow_lit (base := w.heap.size + 1) (e := 5) (size := 1) (w.alloc (.cells #[.int .u8 (k : Nat), .int .u64 (w0 : Nat), .int .u64 (w1 : Nat), .int .u64 (w2 : Nat), .int .u64 (w3 : Nat), .int .u64 (w4 : Nat), .int .u64 (w5 : Nat), .int .u64 (w6 : Nat)] 31)) #[.int .u8 66, .int .u8 70, .int .u8 (k : Nat), .int .u8 0] 4 (by simp) (by unfold maxLen; omega) rfl
    have e : (w.alloc (.cells #[.int .u8 (k : Nat), .int .u64 (w0 : Nat), .int .u64 (w1 : Nat), .int .u64 (w2 : Nat), .int .u64 (w3 : Nat), .int .u64 (w4 : Nat), .int .u64 (w5 : Nat), .int .u64 (w6 : Nat)] 31)).heap.size = w.heap.size + 1 := by simp
    rw [e] at h
    exact ⟨h, by rw [heap_alloc_old _ _ (by simp)]; exact heap_alloc_new w _, bal (bal (Below.refl _ _) _) _⟩
  case round =>
    obtain ⟨i, hi, rfl, HB⟩ := hrel
    by_cases h7 : i < 7
    · obtain ⟨x, hx⟩ : ∃ x, [w0, w1, w2, w3, w4, w5, w6][i]? = some x := ⟨_, List.getElem?_eq_getElem (by simpa using h7)⟩
      have x1 : x < 18446744073709551616 := HW.out x (List.mem_of_getElem? hx)
      have i0' : (0 : Int) ≤ (i : Int) := by omega
      have i1' : (i : Int) < 7 := by omega
      have HPRE := hid (show pre k [w0, w1, w2, w3, w4, w5, w6] (i + 1) = pre k [w0, w1, w2, w3, w4, w5, w6] i ++ le 8 x by
        have hlt : i < [w0, w1, w2, w3, w4, w5, w6].length := by simpa using h7
        rw [List.getElem?_eq_getElem hlt] at hx
        unfold pre
        rw [List.take_succ_eq_append_getElem hlt, List.flatMap_append, ← List.append_assoc]
        congr 1
        simp at hx
        simp [hx])
      have HCELL := hid (show ∀ wr : World, wr.heap[w.heap.size]? = some (.cells #[.int .u8 (k : Nat), .int .u64 (w0 : Nat), .int .u64 (w1 : Nat), .int .u64 (w2 : Nat), .int .u64 (w3 : Nat), .int .u64 (w4 : Nat), .int .u64 (w5 : Nat), .int .u64 (w6 : Nat)] 31 (0, 0)) → wr.cell? ⟨w.heap.size, 1 + i, none⟩ = some (.int .u64 (x : Nat)) from by
        intro wr h
        rw [cell_of_row wr _ _ _ _ _ h]
        have : i = 0 ∨ i = 1 ∨ i = 2 ∨ i = 3 ∨ i = 4 ∨ i = 5 ∨ i = 6 := by omega
        rcases this with rfl | rfl | rfl | rfl | rfl | rfl | rfl <;> simp at hx <;> subst hx <;> rfl)
      have HPL := hid (pre_len k [w0, w1, w2, w3, w4, w5, w6] i (by simp; omega))
      clear hx
      go_wp2_with fail
      go_loopw [3, 5] (fun v jv wq => ∃ j : Nat, j ≤ 8 ∧ jv = .int .i64 j ∧ Hid (ByR w #[.int .u8 (k : Nat), .int .u64 (w0 : Nat), .int .u64 (w1 : Nat), .int .u64 (w2 : Nat), .int .u64 (w3 : Nat), .int .u64 (w4 : Nat), .int .u64 (w5 : Nat), .int .u64 (w6 : Nat)] (pre k [w0, w1, w2, w3, w4, w5, w6] i ++ le j x) v wq)) (fun _ jv _ => 8 - (intOf jv).toNat)
      case atStart => exact ⟨0, by omega, rfl, by simpa [le] using HB⟩
      case round =>
        obtain ⟨j, hj, rfl, HR⟩ := hrel
        by_cases h8 : j < 8
        · obtain ⟨r1, r2, r3⟩ := HR.out
          have hlen : (pre k [w0, w1, w2, w3, w4, w5, w6] i ++ le j x).length = 4 + 8 * i + j := by rw [List.length_append, HPL.out, le_len]
          have H1 := hid r1
          have H2 := hid r2
          have H3 := hid r3
          have hcell := HCELL.out wr r2
          have hsz : w.heap.size + 1 ≤ wr.heap.size := (Array.getElem?_eq_some_iff.1 r2).1
          rename_i wq
          obtain ⟨q, hq⟩ : ∃ q, x / 2 ^ (8 * j) = q := ⟨_, rfl⟩
          have q1 : q < 18446744073709551616 := by rw [← hq]; exact Nat.lt_of_le_of_lt (Nat.div_le_self _ _) x1
          obtain ⟨y, hy⟩ : ∃ y, q % 256 = y := ⟨_, rfl⟩
          have e2 : IntKind.u8.wrap (q : Int) = (y : Int) := by
            have b : IntKind.u8.wrap (q : Int) = (q : Int) % 256 := by simp [IntKind.wrap, IntKind.bits, IntKind.signed]
            rw [b]; omega
          have HLE := hid (show ∀ (v' : Value) (wz : World), ByR w #[.int .u8 (k : Nat), .int .u64 (w0 : Nat), .int .u64 (w1 : Nat), .int .u64 (w2 : Nat), .int .u64 (w3 : Nat), .int .u64 (w4 : Nat), .int .u64 (w5 : Nat), .int .u64 (w6 : Nat)] ((pre k [w0, w1, w2, w3, w4, w5, w6] i ++ le j x) ++ [y]) v' wz → ByR w #[.int .u8 (k : Nat), .int .u64 (w0 : Nat), .int .u64 (w1 : Nat), .int .u64 (w2 : Nat), .int .u64 (w3 : Nat), .int .u64 (w4 : Nat), .int .u64 (w5 : Nat), .int .u64 (w6 : Nat)] (pre k [w0, w1, w2, w3, w4, w5, w6] i ++ le (j + 1) x) v' wz from by
            intro v' wz h
            rw [le_snoc, ← List.append_assoc]
            have e : x / 256 ^ j % 256 = y := by rw [← hy, ← hq, Nat.pow_mul]
            rw [e]
            exact h)
          have HQ := hid hq
          have : j = 0 ∨ j = 1 ∨ j = 2 ∨ j = 3 ∨ j = 4 ∨ j = 5 ∨ j = 6 ∨ j = 7 := by omega
          clear hq hy r1 r2 r3 HR hj h8
          rcases this with rfl | rfl | rfl | rfl | rfl | rfl | rfl | rfl
          · have e1 : (x : Int) = (q : Int) := by rw [← HQ.out]; simp
            go_wp2_with (at_builtin; refine wpList_append_own _ rfl _ _ 22 rfl (w.heap.size + 1) 5 i0 (.int .u8 0) 1 1 Tryd.underlying22 I0.out I1.out I2.out I3.out rfl (by decide) _ _ _ rfl (H1.out.alloc _) ⟨wr.heap.size, 0, none⟩ 1 1 [.int .u8 (y : Int)] rfl rfl ?c1 ?c2 ?c3 ?c4 ?c5 ?_)
            case c1 => exact cell_new1 _ _ _
            case c2 => intro u hu; simp at hu; subst hu; rfl
            case c3 => unfold maxLen; omega
            case c4 => omega
            case c5 => simp; omega
            intro v' w1' hown' hgrow _
            have R := hid (byR_step (o := .cells #[.int .u8 (y : Int)] 5) H1.out H2.out H3.out hown' (by omega) hgrow)
            clear hown' hgrow
            go_wp2
            go_roundw
            case rel => exact ⟨1, by omega, by go_num, HLE.out _ _ R.out⟩
            case measure => simp [intOf]
          · have e1 : (x : Int) / 256 = (q : Int) := by rw [← HQ.out]; simp
            go_wp2_with (at_builtin; refine wpList_append_own _ rfl _ _ 22 rfl (w.heap.size + 1) 5 i0 (.int .u8 0) 1 1 Tryd.underlying22 I0.out I1.out I2.out I3.out rfl (by decide) _ _ _ rfl (H1.out.alloc _) ⟨wr.heap.size, 0, none⟩ 1 1 [.int .u8 (y : Int)] rfl rfl ?c1 ?c2 ?c3 ?c4 ?c5 ?_)
            case c1 => exact cell_new1 _ _ _
            case c2 => intro u hu; simp at hu; subst hu; rfl
            case c3 => unfold maxLen; omega
            case c4 => omega
            case c5 => simp; omega
            intro v' w1' hown' hgrow _
            have R := hid (byR_step (o := .cells #[.int .u8 (y : Int)] 5) H1.out H2.out H3.out hown' (by omega) hgrow)
            clear hown' hgrow
            go_wp2
            go_roundw
            case rel => exact ⟨2, by omega, by go_num, HLE.out _ _ R.out⟩
            case measure => simp [intOf]
          · have e1 : (x : Int) / 65536 = (q : Int) := by rw [← HQ.out]; simp
            go_wp2_with (at_builtin; refine wpList_append_own _ rfl _ _ 22 rfl (w.heap.size + 1) 5 i0 (.int .u8 0) 1 1 Tryd.underlying22 I0.out I1.out I2.out I3.out rfl (by decide) _ _ _ rfl (H1.out.alloc _) ⟨wr.heap.size, 0, none⟩ 1 1 [.int .u8 (y : Int)] rfl rfl ?c1 ?c2 ?c3 ?c4 ?c5 ?_)
            case c1 => exact cell_new1 _ _ _
            case c2 => intro u hu; simp at hu; subst hu; rfl
            case c3 => unfold maxLen; omega
            case c4 => omega
            case c5 => simp; omega
            intro v' w1' hown' hgrow _
            have R := hid (byR_step (o := .cells #[.int .u8 (y : Int)] 5) H1.out H2.out H3.out hown' (by omega) hgrow)
            clear hown' hgrow
            go_wp2
            go_roundw
            case rel => exact ⟨3, by omega, by go_num, HLE.out _ _ R.out⟩
            case measure => simp [intOf]
          · have e1 : (x : Int) / 16777216 = (q : Int) := by rw [← HQ.out]; simp
            go_wp2_with (at_builtin; refine wpList_append_own _ rfl _ _ 22 rfl (w.heap.size + 1) 5 i0 (.int .u8 0) 1 1 Tryd.underlying22 I0.out I1.out I2.out I3.out rfl (by decide) _ _ _ rfl (H1.out.alloc _) ⟨wr.heap.size, 0, none⟩ 1 1 [.int .u8 (y : Int)] rfl rfl ?c1 ?c2 ?c3 ?c4 ?c5 ?_)
            case c1 => exact cell_new1 _ _ _
            case c2 => intro u hu; simp at hu; subst hu; rfl
            case c3 => unfold maxLen; omega
            case c4 => omega
            case c5 => simp; omega
            intro v' w1' hown' hgrow _
            have R := hid (byR_step (o := .cells #[.int .u8 (y : Int)] 5) H1.out H2.out H3.out hown' (by omega) hgrow)
            clear hown' hgrow
            go_wp2
            go_roundw
            case rel => exact ⟨4, by omega, by go_num, HLE.out _ _ R.out⟩
            case measure => simp [intOf]
          · have e1 : (x : Int) / 4294967296 = (q : Int) := by rw [← HQ.out]; simp
            go_wp2_with (at_builtin; refine wpList_append_own _ rfl _ _ 22 rfl (w.heap.size + 1) 5 i0 (.int .u8 0) 1 1 Tryd.underlying22 I0.out I1.out I2.out I3.out rfl (by decide) _ _ _ rfl (H1.out.alloc _) ⟨wr.heap.size, 0, none⟩ 1 1 [.int .u8 (y : Int)] rfl rfl ?c1 ?c2 ?c3 ?c4 ?c5 ?_)
            case c1 => exact cell_new1 _ _ _
            case c2 => intro u hu; simp at hu; subst hu; rfl
            case c3 => unfold maxLen; omega
            case c4 => omega
            case c5 => simp; omega
            intro v' w1' hown' hgrow _
            have R := hid (byR_step (o := .cells #[.int .u8 (y : Int)] 5) H1.out H2.out H3.out hown' (by omega) hgrow)
            clear hown' hgrow
            go_wp2
            go_roundw
            case rel => exact ⟨5, by omega, by go_num, HLE.out _ _ R.out⟩
            case measure => simp [intOf]
          · have e1 : (x : Int) / 1099511627776 = (q : Int) := by rw [← HQ.out]; simp
            go_wp2_with (at_builtin; refine wpList_append_own _ rfl _ _ 22 rfl (w.heap.size + 1) 5 i0 (.int .u8 0) 1 1 Tryd.underlying22 I0.out I1.out I2.out I3.out rfl (by decide) _ _ _ rfl (H1.out.alloc _) ⟨wr.heap.size, 0, none⟩ 1 1 [.int .u8 (y : Int)] rfl rfl ?c1 ?c2 ?c3 ?c4 ?c5 ?_)
            case c1 => exact cell_new1 _ _ _
            case c2 => intro u hu; simp at hu; subst hu; rfl
            case c3 => unfold maxLen; omega
            case c4 => omega
            case c5 => simp; omega
            intro v' w1' hown' hgrow _
            have R := hid (byR_step (o := .cells #[.int .u8 (y : Int)] 5) H1.out H2.out H3.out hown' (by omega) hgrow)
            clear hown' hgrow
            go_wp2
            go_roundw
            case rel => exact ⟨6, by omega, by go_num, HLE.out _ _ R.out⟩
            case measure => simp [intOf]
          · have e1 : (x : Int) / 281474976710656 = (q : Int) := by rw [← HQ.out]; simp
            go_wp2_with (at_builtin; refine wpList_append_own _ rfl _ _ 22 rfl (w.heap.size + 1) 5 i0 (.int .u8 0) 1 1 Tryd.underlying22 I0.out I1.out I2.out I3.out rfl (by decide) _ _ _ rfl (H1.out.alloc _) ⟨wr.heap.size, 0, none⟩ 1 1 [.int .u8 (y : Int)] rfl rfl ?c1 ?c2 ?c3 ?c4 ?c5 ?_)
            case c1 => exact cell_new1 _ _ _
            case c2 => intro u hu; simp at hu; subst hu; rfl
            case c3 => unfold maxLen; omega
            case c4 => omega
            case c5 => simp; omega
            intro v' w1' hown' hgrow _
            have R := hid (byR_step (o := .cells #[.int .u8 (y : Int)] 5) H1.out H2.out H3.out hown' (by omega) hgrow)
            clear hown' hgrow
            go_wp2
            go_roundw
            case rel => exact ⟨7, by omega, by go_num, HLE.out _ _ R.out⟩
            case measure => simp [intOf]
          · have e1 : (x : Int) / 72057594037927936 = (q : Int) := by rw [← HQ.out]; simp
            go_wp2_with (at_builtin; refine wpList_append_own _ rfl _ _ 22 rfl (w.heap.size + 1) 5 i0 (.int .u8 0) 1 1 Tryd.underlying22 I0.out I1.out I2.out I3.out rfl (by decide) _ _ _ rfl (H1.out.alloc _) ⟨wr.heap.size, 0, none⟩ 1 1 [.int .u8 (y : Int)] rfl rfl ?c1 ?c2 ?c3 ?c4 ?c5 ?_)
            case c1 => exact cell_new1 _ _ _
            case c2 => intro u hu; simp at hu; subst hu; rfl
            case c3 => unfold maxLen; omega
            case c4 => omega
            case c5 => simp; omega
            intro v' w1' hown' hgrow _
            have R := hid (byR_step (o := .cells #[.int .u8 (y : Int)] 5) H1.out H2.out H3.out hown' (by omega) hgrow)
            clear hown' hgrow
            go_wp2
            go_roundw
            case rel => exact ⟨8, by omega, by go_num, HLE.out _ _ R.out⟩
            case measure => simp [intOf]
        · have hj8 : j = 8 := by omega
          subst hj8
          have HR2 := hid (show ByR w #[.int .u8 (k : Nat), .int .u64 (w0 : Nat), .int .u64 (w1 : Nat), .int .u64 (w2 : Nat), .int .u64 (w3 : Nat), .int .u64 (w4 : Nat), .int .u64 (w5 : Nat), .int .u64 (w6 : Nat)] (pre k [w0, w1, w2, w3, w4, w5, w6] (i + 1)) _ _ from by rw [HPRE.out]; exact HR.out)
          go_wp2
          go_roundw
          case rel => exact ⟨i + 1, by omega, by go_num, HR2.out⟩
          case measure => simp [intOf]; omega
    · have hi7 : i = 7 := by omega
      subst hi7
      have HF := HB.out
      rw [body_pre k [w0, w1, w2, w3, w4, w5, w6] rfl] at HF
      obtain ⟨r1, r2, r3⟩ := HF
      rw [body_len k [w0, w1, w2, w3, w4, w5, w6] rfl] at r1
      have H1 := hid r1
      have H3 := hid r3
      clear r1 r2 r3
      go_wp2
      go_ret
      exact ⟨_, rfl, H1.out, H3.out⟩
end Go.Proofs.YthionbjkdpipiaaDoor
