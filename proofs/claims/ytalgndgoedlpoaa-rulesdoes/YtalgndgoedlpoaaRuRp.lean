/-
  RuRk RuRp
-/
import Derived.Test.YtalgndgoedlpoaaRuRj
namespace Go.Proofs.Ytalgndgoedlpoaa
section
open Go.RowKit Go.Deep Go.Shelf
set_option linter.unusedVariables false
set_option linter.unusedSimpArgs false
set_option maxHeartbeats 4000000
set_option maxRecDepth 100000
theorem step_store_row {P : Program} {w : World} {ops : Array Oper} {o : Oper} {a : Act} {K : Act → World → Prop} {Q : Exit → Act → World → Prop} {E : Prop} (hgd : o.guard = none) (ty : TypeId) (x y : Operand) (ho : o.op = .store ty x y)
    (g : Nat) (cells : Array Value) (hx : a.eval x = .pointer (some ⟨g, 0, none⟩)) (hy : a.eval y = .agg cells)
    (t : TypeId) (old : Array Value) (hg : w.heap[g]? = some (.cells old t (0, 0))) (hi : (P.info? ty).map (·.size) = some cells.size)
    (hold : old.size = cells.size) (h1 : cells.all (·.oneCell') = true)
    (h : K (a.put o.dst undef) (w.setRow g cells)) : if Region.wanted o (yielded ops a.tmps) = true then Oper.wp P o a w K Q else E := by
  have hw : Region.wanted o (yielded ops a.tmps) = true := by simp [Region.wanted, hgd]
  rw [if_pos hw]
  exact wp_store_row ty x y ho g cells hx hy t old hg hi hold h1 h
/-- an event is told: for a walk. -/
theorem wtell (d : Db) (p : Option Addr) (n c : Nat) (es : List Ev) (ev : Ev) (hn : es.length = n) (hb : n ≤ 17179869184) (U : World) (h : Rv U (.slice p n c) es) :
    Calls Try.prog 30 #[.agg #[.int .i64 d.cap, .int .i64 d.meet, .slice d.p1 d.o1.length d.c1, .slice d.p2 d.o2.length d.c2, .int .u64 d.high, .int .u64 d.seq, .slice p n c], .agg (ecs ev).toArray] U fun r w' => ∃ p' c' d2, r = .returned (.agg #[.int .i64 d2.cap, .int .i64 d2.meet, .slice d2.p1 d2.o1.length d2.c1, .slice d2.p2 d2.o2.length d2.c2, .int .u64 d2.high, .int .u64 d2.seq, .slice p' (n + 1) c']) ∧ Hid (d2 = d.told) ∧ Hid (Rv w' (.slice p' (n + 1) c') (es ++ [ev.num (nx d.seq)])) ∧ Hid (Below U.heap.size U w') := by
  subst hn
  refine (dtell_any d p c es ev U h hb).mono ?_
  rintro r w' ⟨p', c', rfl, h1, h2⟩
  exact ⟨p', c', d.told, rfl, hid rfl, hid h1, hid h2⟩
theorem wwith (d : Db) (s : Int) (p : Option Addr) (n c : Nat) (os : List Or) (hn : os.length = n) (U : World) :
    Calls Try.prog 32 #[.agg #[.int .i64 d.cap, .int .i64 d.meet, .slice d.p1 d.o1.length d.c1, .slice d.p2 d.o2.length d.c2, .int .u64 d.high, .int .u64 d.seq], .int .i64 s, .slice p n c] U fun e w' => ∃ d2, e = .returned (.agg #[.int .i64 d2.cap, .int .i64 d2.meet, .slice d2.p1 d2.o1.length d2.c1, .slice d2.p2 d2.o2.length d2.c2, .int .u64 d2.high, .int .u64 d2.seq]) ∧ Hid (d2 = d.put s p c os) ∧ Hid (Below U.heap.size U w') := by
  subst hn
  refine (withD_any d s p c os U).mono ?_
  rintro e w' ⟨rfl, h2⟩
  exact ⟨_, rfl, hid rfl, hid h2⟩
theorem wside (d : Db) (s t : Int) (ht : oth s = t) (hs : s = 1 ∨ s = 2) (U : World) (h : Dm U d) :
    Calls Try.prog 34 #[.agg #[.int .i64 d.cap, .int .i64 d.meet, .slice d.p1 d.o1.length d.c1, .slice d.p2 d.o2.length d.c2, .int .u64 d.high, .int .u64 d.seq], .int .i64 t] U fun e w' => ∃ p n c, e = .returned (.slice p n c) ∧ Hid ((d.os (oth s)).length = n) ∧ Hid (Rw w' (.slice p n c) (d.os (oth s))) ∧ Hid (Below U.heap.size U w') := by
  subst ht
  refine (sideD_any d (oth s) (oth_side hs) U).mono ?_
  rintro e w' ⟨rfl, h2⟩
  exact ⟨_, _, _, rfl, hid rfl, hid ((h.at' (oth s)).1.on h2), hid h2⟩
theorem rw_first {U : World} {p : Option Addr} {n c : Nat} {x : Or} {r : List Or} (h : Rw U (.slice p n c) (x :: r)) (hn : (x :: r).length = n) : ∃ g, p = some ⟨g, 0, none⟩ ∧ g < U.heap.size ∧ U.cell? ⟨g, 0, none⟩ = some (.int .u64 x.id) ∧ U.cell? ⟨g, 1, none⟩ = some (.int .u32 x.mb) ∧ U.cell? ⟨g, 2, none⟩ = some (.int .i64 x.ty) ∧ U.cell? ⟨g, 3, none⟩ = some (.int .i64 x.pr) ∧ U.cell? ⟨g, 4, none⟩ = some (.int .u64 x.vi) ∧ U.cell? ⟨g, 5, none⟩ = some (.int .u64 x.hi) ∧ U.cell? ⟨g, 6, none⟩ = some (.int .u64 x.pk) := by
  subst hn
  obtain ⟨h1, ⟨e, e2⟩ | ⟨g, c', cur, e, r1, r2, r3, r4, r5, r6⟩⟩ := h
  · simp at e2
  · refine ⟨g, (Value.slice.inj e).1, row_lt r2, ?_⟩
    have go : ∀ j, j < 7 → U.cell? ⟨g, j, none⟩ = (orow x).toList[j]? := fun j hj => by
      have := congrArg (fun z => z[j]?) r6
      have hlt : j < (x :: r).length * 7 := by simp; omega
      simp only [List.getElem?_take, hlt, if_true, Array.getElem?_toList] at this
      have h0 := ors_get (os := x :: r) (i := 0) (by simp) hj
      rw [Nat.zero_mul, Nat.zero_add] at h0
      rw [row_cell r2, this, h0]
      rfl
    exact ⟨go 0 (by omega), go 1 (by omega), go 2 (by omega), go 3 (by omega), go 4 (by omega), go 5 (by omega), go 6 (by omega)⟩
/-- what a meeting comes to, by the document. -/
def prtO (meet : Int) (o x : Or) : Bool := !(x.mb == 0) && (x.mb == o.mb) && !(meet == 0)
def stD (n meet : Int) (o : Or) (s q : Int) (x : Or) (r : List Or) : List Or × List Ev × Int × Int :=
  if prtO meet o x = true then
    (if meet = 1 then (x :: r, [(evC o.id q 5).num (nx n)], 0, nx n)
     else if meet = 2 then (r, [(evC x.id (x.vi + x.hi) 5).num (nx n)], q, nx n)
     else (r, [(evC x.id (x.vi + x.hi) 5).num (nx n), (evC o.id q 5).num (nx (nx n))], 0, nx (nx n)))
  else if 0 < x.vi - min q x.vi then (x.less (min q x.vi) :: r, [(evT o s x (min q x.vi)).num (nx n)], q - min q x.vi, nx n)
  else if x.hi = 0 then (r, [(evT o s x (min q x.vi)).num (nx n)], q - min q x.vi, nx n)
  else (inO (bhO (oth s) x.pr r) (x.less (min q x.vi)).shn r, [(evT o s x (min q x.vi)).num (nx n), (evF (x.less (min q x.vi)).shn).num (nx (nx n))], q - min q x.vi, nx (nx n))
theorem osl_inO (k : Nat) (y : Nat × Or) (l : LO) : osl (ins k y l) = inO k y.2 (osl l) := by
  unfold ins inO osl
  simp
theorem bhO_osl (s p : Int) (l : LO) : bhO s p (osl l) = bhd s p l := by
  unfold bhO bhd osl
  rw [List.takeWhile_map, List.length_map]
  rfl
end
section
open Go.RowKit Go.Deep Go.Shelf
set_option linter.unusedVariables false
set_option linter.unusedSimpArgs false
set_option maxHeartbeats 4000000
set_option maxRecDepth 100000
theorem dwithout2_any (p : Option Addr) (c : Nat) (os : List Or) (id : Int) (w : World) (h : Rw w (.slice p os.length c) os) (hn : os.length ≤ 1048576) :
  Calls Try.prog 33 #[.slice p os.length c, .int .u64 id] w fun e w' => ∃ q d, e = .returned (.slice q (wo id os).length d) ∧ w'.ownsRow w.heap.size 50 7 (.slice q (wo id os).length d) (wo id os).length (ors (wo id os)) ∧ Below w.heap.size w w' := by
 obtain ⟨i0, hi, hz0, hz1, hz2⟩ := info_parts info50all
 obtain ⟨n, hnn⟩ : ∃ n, os.length = n := ⟨_, rfl⟩
 obtain ⟨W, hW⟩ : ∃ W, w = W := ⟨_, rfl⟩
 subst hW
 have HN := hid hnn
 have HO := hid (rw_osz h)
 have HI := hid hi
 have HZ0 := hid hz0
 have HZ1 := hid hz1
 have HZ2 := hid hz2
 rw [hnn] at hn ⊢
 clear hnn h hi hz0 hz1 hz2
 have HSRC := hid (fun (U : World) (z : Or) (cs : Array Value) (hcs : cs = orow z) => (show ∀ j u, (orow z).toList[j]? = some u → (U.alloc (.cells cs 50)).cell? ((⟨U.heap.size, 0, none⟩ : Addr).add j) = some u from fun j u hj => by
  rw [Addr.add_lit, Nat.zero_add, row_cell (World.alloc_heap_new U (.cells cs 50)), hcs]
  simpa using hj))
 have HS0 := hid (show (w.alloc (.cells #[] 50)).ownsRow w.heap.size 50 7 (.slice (some ⟨w.heap.size, 0, none⟩) 0 0) 0 (ors (wo id (os.take 0))) from World.ownsRow_made w #[] 0 (Nat.le_refl _) (by unfold maxLen; omega) rfl)
 go_enter Try.func33, Try.ntmps33
 go_wp2_with fail
 go_loopw [5, 6] (fun rv iv wr => ∃ (i m : Nat) (q : Option Addr) (d : Nat), i ≤ n ∧ iv = .int .i64 i ∧ rv = .slice q m d ∧ m ≤ i ∧ Hid (m = (wo id (os.take i)).length) ∧ Hid (wr.ownsRow w.heap.size 50 7 (.slice q m d) m (ors (wo id (os.take i)))) ∧ Hid (Below w.heap.size w wr)) (fun _ iv _ => n - (intOf iv).toNat)
 case atStart => exact ⟨0, 0, _, _, Nat.zero_le _, rfl, rfl, Nat.le_refl _, hid rfl, HS0, hid (ball _ _)⟩
 case round =>
  obtain ⟨i, m, q, d, hin, rfl, rfl, hmi, HM, HOW, HBW⟩ := hrel
  clear HS0
  by_cases hlt : i < n
  ·have hil : i < os.length := by rw [HN.out]; exact hlt
   obtain ⟨z, hz⟩ : ∃ z, os[i] = z := ⟨_, rfl⟩
   have HT := hid (show wo id (os.take (i + 1)) = wo id (os.take i) ++ if z.id = id then [] else [z] from by rw [List.take_succ_eq_append_getElem hil, wo_snoc, hz])
   obtain ⟨pb, po, hp, a0, a1, a2, a3, a4, a5, a6⟩ := osz_cells HO.out HBW.out hil
   subst hp
   rw [hz] at a0 a1 a2 a3 a4 a5 a6
   clear hz
   have i0' : (0 : Int) ≤ (i : Int) := by omega
   have i1 : (i : Int) < (n : Int) := by omega
   have hbs := HBW.out.size
   by_cases he : z.id = id
   ·rw [if_pos he, List.append_nil] at HT
    rw [he] at a0
    have HE := hid he
    clear he
    go_wp2
    go_roundw
    case rel => exact ⟨i + 1, m, q, d, by omega, by go_num, rfl, by omega, hid (by rw [HT.out]; exact HM.out), hid (by rw [HT.out]; exact HOW.out), HBW⟩
    case measure => simp [intOf]; omega
   ·rw [if_neg he] at HT
    have he' : (z.id == id) = false := by simpa using he
    have HE := hid he
    clear he
    go_wp2_with (at_builtin; refine wpList_append_own _ (by rfl) (.tmp 21) (.tmp 26) 29 (by rfl) w.heap.size 50 i0 _ 7 56 Try.underlying29 HI.out HZ0.out HZ1.out HZ2.out rfl (by decide) _ m _ (by rfl) (HOW.out.alloc _) ⟨wr.heap.size, 0, none⟩ 1 1 (orow z).toList (by rfl) (by simp [orow]) (HSRC.out wr z _ rfl) (orow_one z) (by unfold maxLen; omega) (by omega) (by simp; omega) ?_; intro v1 w1 hown hgrow _; obtain ⟨p1, c1, hrv⟩ := own_form hown; subst hrv; have O1 := hid hown; have G1 := hid hgrow; clear hown hgrow)
    go_roundw
    case rel =>
     refine ⟨i + 1, m + 1, p1, c1, by omega, by go_num, rfl, by omega, hid ?_, hid ?_, hid ?_⟩
     ·rw [HT.out, List.length_append, ← HM.out]; rfl
     ·rw [HT.out, ors_snoc]; exact O1.out
     ·exact (btr HBW.out (ball wr _)).grown G1.out (Nat.le_trans HBW.out.size (by simp)) (fun j hj => (HOW.out.lt j hj).1)
    case measure => simp [intOf]; omega
  ·obtain rfl : i = n := by omega
   go_wp2
   go_ret
   have hm := HM.out
   have ho := HOW.out
   rw [List.take_of_length_le (by rw [HN.out]; exact Nat.le_refl _)] at hm ho
   subst hm
   exact ⟨q, d, rfl, ho, HBW.out⟩
theorem wwithout2 (p : Option Addr) (n c : Nat) (os : List Or) (id : Int) (hn : os.length = n) (hb : n ≤ 1048576) (U : World) (h : Rw U (.slice p n c) os) :
  Calls Try.prog 33 #[.slice p n c, .int .u64 id] U fun e w' => ∃ q m c2, e = .returned (.slice q m c2) ∧ Hid ((wo id os).length = m) ∧ Hid (Rw w' (.slice q m c2) (wo id os)) ∧ Hid (Below U.heap.size U w') ∧ Hid (∀ j, (Value.slice q m c2).ownBlock = some j → U.heap.size ≤ j) := by
 subst hn
 refine (dwithout2_any p c os id U h hb).mono ?_
 rintro e w' ⟨q, c2, rfl, h1, h2⟩
 exact ⟨q, _, c2, rfl, hid rfl, hid (own_base h1 (Nat.zero_le _)), hid h2, hid (fun j hj => (h1.lt j hj).1)⟩
end
end Go.Proofs.Ytalgndgoedlpoaa
