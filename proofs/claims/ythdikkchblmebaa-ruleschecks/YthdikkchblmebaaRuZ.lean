/-
  A list made of what is told.
-/
import Derived.Test.YthdikkchblmebaaRuY
namespace Go.Proofs.Ythdikkchblmebaa
open Go.RowKit Go.Deep Go.Shelf
set_option linter.unusedVariables false
set_option linter.unusedSimpArgs false
set_option maxHeartbeats 4000000
set_option maxRecDepth 100000
theorem info92all : (Try.prog.info? 74).map (fun i => (i.zero, i.size, i.bytes)) = some (some (.pointer none), 1, 8) := by kernel_rfl
/-- a list whose blocks are all new. -/
structure Nw (w0 w : World) (v : Value) (l : LO) (os : List Or) : Prop where
  own : w.ownsRow w0.heap.size 74 1 v l.length (pvs l)
  at' : ∀ x ∈ l, w0.heap.size ≤ x.1 ∧ w.heap[x.1]? = some (.cells (orow x.2) 53 (0, 0))
  nd : (l.map (·.1)).Nodup
  os : l.map (·.2) = os
  be : Below w0.heap.size w0 w
theorem Nw.next {w0 w w' : World} {v v' : Value} {l : LO} {os : List Or} {z : Or} {cs : Array Value} {B2 : Nat} (h : Nw w0 w v l os) (hcs : cs = orow z) (ho : w'.ownsRow w0.heap.size 74 1 v' (l.length + 1) (pvs l ++ [pv w.heap.size])) (hg : ((w.alloc (.cells cs 53)).alloc (.cells #[pv w.heap.size] 74)).grownBy w' v.ownBlock) : Nw w0 w' v' (l ++ [(w.heap.size, z)]) (os ++ [z]) := by
  have hsz := h.be.size
  have hne : ∀ (g : Nat) (c : Array Value), w.heap[g]? = some (.cells c 53 (0, 0)) → some g ≠ v.ownBlock := fun g c hc e => by
    obtain ⟨c', e'⟩ := own_ty h.own e.symm
    exact row_ne hc e' (by decide) rfl
  have hb : Below w.heap.size w ((w.alloc (.cells cs 53)).alloc (.cells #[pv w.heap.size] 74)) := btr (ball _ _) (ball _ _)
  refine ⟨?_, fun x hx => ?_, ?_, by simp [h.os], (h.be.trans (hb.mono hsz)).grown hg (Nat.le_trans hsz hb.size) (fun j hj => (h.own.lt j hj).1)⟩
  · have : pvs (l ++ [(w.heap.size, z)]) = pvs l ++ [pv w.heap.size] := by simp [pvs]
    rw [this, List.length_append, List.length_singleton]
    exact ho
  · rcases List.mem_append.1 hx with hx | hx
    · obtain ⟨a, b⟩ := h.at' x hx
      refine ⟨a, ?_⟩
      have b' := row_on b hb
      rw [hg.block x.1 (row_lt b') (hne x.1 _ b)]
      exact b'
    · rw [List.mem_singleton] at hx
      subst hx
      refine ⟨hsz, ?_⟩
      have b' : ((w.alloc (.cells cs 53)).alloc (.cells #[pv w.heap.size] 74)).heap[w.heap.size]? = some (.cells (orow z) 53 (0, 0)) := by
        rw [← hcs]
        exact row_on (World.alloc_heap_new w (.cells cs 53)) (ball _ _)
      show w'.heap[w.heap.size]? = _
      rw [hg.block w.heap.size (row_lt b') (fun e => by have := (h.own.lt _ e.symm).2; omega)]
      exact b'
  · rw [List.map_append, List.map_singleton, List.nodup_append]
    refine ⟨h.nd, by simp, ?_⟩
    intro a ha b hb' e
    rw [List.mem_singleton] at hb'
    obtain ⟨x, hx, rfl⟩ := List.mem_map.1 ha
    have := row_lt (h.at' x hx).2
    simp at hb'
    omega
theorem listOf_any (p : Option Addr) (c : Nat) (os : List Or) (w : World) (h : w.ownsRow 0 53 7 (.slice p os.length c) os.length (ors os)) (hn : os.length ≤ 1048576) :
    Calls Try.prog 28 #[.slice p os.length c] w fun e w' => ∃ v l, e = .returned v ∧ Nw w w' v l os := by
  obtain ⟨i0, hi, hz0, hz1, hz2⟩ := info_parts info92all
  obtain ⟨n, hnn⟩ : ∃ n, os.length = n := ⟨_, rfl⟩
  obtain ⟨MC, hMC, hms⟩ : ∃ MC : Array Value, madeCells #[.pointer none] (n * 1) = MC ∧ MC.size = n * 1 := ⟨_, rfl, by simp [madeCells]⟩
  have hmk : ∀ u : World, (Instr.makeSlice 57 (.int .i64 0) (.int .i64 (n : Nat))).run Try.prog u = .ok (.slice (some ⟨u.heap.size, 0, none⟩) 0 n) (u.alloc (.cells MC 74)) := fun u => by
    have := run_make (P := Try.prog) u 57 74 i0 _ Try.underlying57 hi hz0 .i64 .i64 0 (n : Nat) (by omega) (by omega) (by rw [hz2]; omega) (by omega)
    rw [hz1] at this
    rw [← hMC]
    simpa [Value.cells] using this
  have HS := hid (show Nw w (w.alloc (.cells MC 74)) (.slice (some ⟨w.heap.size, 0, none⟩) 0 n) [] (os.take 0) from ⟨World.ownsRow_made w MC n (Nat.le_refl _) (by unfold maxLen; omega) hms, by simp, by simp, by simp, ball _ _⟩)
  have HL := hid h
  have HI := hid hi
  have HZ0 := hid hz0
  have HZ1 := hid hz1
  have HZ2 := hid hz2
  have HN := hid hnn
  rw [hnn] at hn ⊢
  clear h hi hz0 hz1 hz2 hMC hms hnn
  go_enter Try.func28, Try.ntmps28
  go_wp2_with fail
  go_loopw [3, 11] (fun rv iv wr => ∃ (i : Nat) (l : LO) (p0 : Option Addr) (c0 : Nat), i ≤ n ∧ iv = .int .i64 i ∧ rv = .slice p0 i c0 ∧ Hid (l.length = i) ∧ Hid (Nw w wr (.slice p0 i c0) l (os.take i))) (fun _ iv _ => n - (intOf iv).toNat)
  case atStart => exact ⟨0, [], _, _, Nat.zero_le _, rfl, rfl, hid rfl, HS⟩
  case round =>
    obtain ⟨i, l, p0, c0, hin, rfl, rfl, HLE, HO⟩ := hrel
    clear HS hmk
    by_cases hlt : i < n
    · have hil : i < os.length := by rw [HN.out]; exact hlt
      have hlo := own_on HL.out (btr (Below.refl _ _) HO.out.be)
      obtain ⟨g, cur, hp, r2, hcc⟩ : ∃ g cur, p = some ⟨g, 0, none⟩ ∧ wr.heap[g]? = some (.cells cur 53 (0, 0)) ∧ ∀ j, j < os.length * 7 → cur[j]? = (ors os)[j]? := by
        obtain ⟨h1, ⟨e, e2⟩ | ⟨g, c', cur, e, r1, r2, r3, r4, r5, r6⟩⟩ := hlo
        · have := (Value.slice.inj e).2.1
          omega
        · obtain ⟨rfl, _, rfl⟩ := Value.slice.inj e
          refine ⟨g, cur, rfl, r2, fun j hj => ?_⟩
          have := congrArg (fun z => z[j]?) r6
          simp only [List.getElem?_take, hj, if_true, Array.getElem?_toList] at this
          exact this
      subst hp
      obtain ⟨z, hz⟩ : ∃ z, os[i] = z := ⟨_, rfl⟩
      have rr : ∀ j, j < 7 → wr.cell? ⟨g, i * 7 + j, none⟩ = (orow z).toList[j]? := fun j hj => by
        rw [row_cell r2, hcc _ (by omega), ors_get hil hj, hz]
      have r0 := rr 0 (by omega)
      have r1 := rr 1 (by omega)
      have r2' := rr 2 (by omega)
      have r3 := rr 3 (by omega)
      have r4 := rr 4 (by omega)
      have r5 := rr 5 (by omega)
      have r6 := rr 6 (by omega)
      simp only [orow, List.getElem?_cons_succ, List.getElem?_cons_zero, Nat.add_zero] at r0 r1 r2' r3 r4 r5 r6
      have HT := hid (show os.take i ++ [z] = os.take (i + 1) from by
        rw [List.take_succ_eq_append_getElem hil, hz])
      have HNW := hid (fun (cs : Array Value) => (show ∀ j u, [pv wr.heap.size][j]? = some u → ((wr.alloc (.cells cs 53)).alloc (.cells #[pv wr.heap.size] 74)).cell? ((⟨wr.heap.size + 1, 0, none⟩ : Addr).add j) = some u from fun j u hj => by
        have e := World.alloc_heap_new (wr.alloc (.cells cs 53)) (.cells #[pv wr.heap.size] 74)
        have e2 : (wr.alloc (.cells cs 53)).heap.size = wr.heap.size + 1 := by simp
        rw [e2] at e
        rw [Addr.add_lit, Nat.zero_add, row_cell e]
        simpa using hj))
      have i0' : (0 : Int) ≤ (i : Int) := by omega
      have i1 : (i : Int) < (n : Int) := by omega
      have HOW := hid (show wr.ownsRow w.heap.size 74 1 (.slice p0 i c0) i (pvs l) from by have := HO.out.own; rw [HLE.out] at this; exact this)
      have hbs := HO.out.be.size
      clear hz hlo r2 hcc rr
      go_wp2_with (at_builtin; refine wpList_append_own _ (by rfl) (.tmp 15) (.tmp 16) 57 (by rfl) w.heap.size 74 i0 _ 1 8 Try.underlying57 HI.out HZ0.out HZ1.out HZ2.out rfl (by decide) _ i _ (by rfl) ((HOW.out.alloc _).alloc _) ⟨wr.heap.size + 1, 0, none⟩ 1 1 [pv wr.heap.size] (by rfl) (by simp) (HNW.out _) (by intro u hu; rw [List.mem_singleton] at hu; rw [hu]; rfl) (by unfold maxLen; omega) (by omega) (by simp; omega) ?_; intro v1 w1 hown hgrow _; obtain ⟨p1, c1, hrv⟩ := own_form hown; subst hrv; have O1 := hid hown; have G1 := hid hgrow; clear hown hgrow)
      go_roundw
      case rel =>
        refine ⟨i + 1, l ++ [(wr.heap.size, z)], p1, c1, by omega, by go_num, rfl, hid (by simp [HLE.out]), ?_⟩
        rw [← HT.out]
        exact HO.out.next (B2 := 0) rfl (by rw [HLE.out]; exact O1.out) G1.out
      case measure => simp [intOf]; omega
    · obtain rfl : i = n := by omega
      go_wp2
      go_ret
      refine ⟨_, l, rfl, ?_⟩
      have := HO.out
      rw [List.take_of_length_le (by rw [HN.out]; exact Nat.le_refl _)] at this
      exact this
end Go.Proofs.Ythdikkchblmebaa
