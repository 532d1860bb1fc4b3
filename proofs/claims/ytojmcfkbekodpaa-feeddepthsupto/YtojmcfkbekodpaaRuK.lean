/-
  An order that rests is cancelled; a command is refused.
-/
import Derived.Test.YtojmcfkbekodpaaKd
namespace Go.Proofs.Ytojmcfkbekodpaa
open Go.RowKit Go.Deep Go.Shelf
set_option linter.unusedVariables false
set_option linter.unusedSimpArgs false
set_option maxHeartbeats 4000000
set_option maxRecDepth 100000
/-- another list on a side. -/
def Bs.put (b : Bs) (s : Int) (p : Option Addr) (c : Nat) (l : LO) : Bs := if s = 1 then { b with p1 := p, c1 := c, l1 := l } else { b with p2 := p, c2 := c, l2 := l }
def Bs.del (b : Bs) (s : Int) (i : Nat) : Bs := b.put s (b.sp s) (b.sc s) ((b.sl s).eraseIdx i)
/-- what a change of one side's list may touch. -/
def sfp (b : Bs) (B : Nat) (s : Int) (j : Nat) : Prop := j = B ∨ OfP (b.sp s) j
theorem sublist_nodup_left {a b : LO} (h : ((a ++ b).map (·.1)).Nodup) : (a.map (·.1)).Nodup ∧ (b.map (·.1)).Nodup ∧ ∀ x ∈ a, ∀ y ∈ b, x.1 ≠ y.1 := by
  rw [List.map_append, List.nodup_append] at h
  exact ⟨h.1, h.2.1, fun x hx y hy => h.2.2 _ (List.mem_map.2 ⟨x, hx, rfl⟩) _ (List.mem_map.2 ⟨y, hy, rfl⟩)⟩
theorem Bm.snd {w : World} {B : Nat} {b : Bs} (h : Bm w B b) (s : Int) : ((b.sl s).map (·.1)).Nodup := by
  have := sublist_nodup_left h.nd
  unfold Bs.sl
  split
  · exact this.1
  · exact this.2.1
/-- a book one of whose lists is another one now. -/
theorem Bm.list {w w' : World} {B k : Nat} {b : Bs} {s : Int} {p : Option Addr} {c : Nat} {l : LO} (h : Bm w B b) (hs : s = (k : Int) + 1) (hk2 : k < 2)
    (hr : w'.heap[B]? = some (.cells (b.row.setIfInBounds (2 + k) (.slice p l.length c)) 113 (0, 0))) (hl : Li w' p c l) (hk : Kp (sfp b B s) w w')
    (hp : ∀ g, OfP p g → OfP (b.sp s) g ∨ w.heap.size ≤ g) (hm : ∀ x ∈ l, x ∈ b.sl s ∨ w.heap.size ≤ x.1) (hnd : (l.map (·.1)).Nodup) : Bm w' B (b.put s p c l) := by
  have nd := sublist_nodup_left h.nd
  have hkk : k = 0 ∨ k = 1 := by omega
  rcases hkk with rfl | rfl
  · obtain rfl : s = 1 := by omega
    have e : b.put 1 p c l = { b with p1 := p, c1 := c, l1 := l } := rfl
    rw [e]
    refine ⟨hr, hl, h.li2.kept hk (fun g hg => ?_) (fun x hx => ?_), ?_, fun g hg hg2 => ?_⟩
    · rintro (rfl | h1)
      · obtain ⟨c, e⟩ := h.li2.ty hg; exact row_ne h.row e (by decide) rfl
      · exact h.ap g h1 hg
    · rintro (h1 | h1)
      · exact row_ne (h.li2.at' x hx) h.row (by decide) h1
      · obtain ⟨c, e⟩ := h.li1.ty h1; exact row_ne (h.li2.at' x hx) e (by decide) rfl
    · show ((l ++ b.l2).map (·.1)).Nodup
      rw [List.map_append, List.nodup_append]
      refine ⟨hnd, nd.2.1, fun a ha y hy => ?_⟩
      obtain ⟨x, hx, rfl⟩ := List.mem_map.1 ha
      obtain ⟨z, hz, rfl⟩ := List.mem_map.1 hy
      rcases hm x hx with h1 | h1
      · exact nd.2.2 x h1 z hz
      · have := row_lt (h.li2.at' z hz); intro e; omega
    · rcases hp g hg with h1 | h1
      · exact h.ap g h1 hg2
      · obtain ⟨c, e⟩ := h.li2.ty hg2; have := row_lt e; omega
  · obtain rfl : s = 2 := by omega
    have e : b.put 2 p c l = { b with p2 := p, c2 := c, l2 := l } := rfl
    rw [e]
    refine ⟨hr, h.li1.kept hk (fun g hg => ?_) (fun x hx => ?_), hl, ?_, fun g hg hg2 => ?_⟩
    · rintro (rfl | h1)
      · obtain ⟨c, e⟩ := h.li1.ty hg; exact row_ne h.row e (by decide) rfl
      · exact h.ap g hg h1
    · rintro (h1 | h1)
      · exact row_ne (h.li1.at' x hx) h.row (by decide) h1
      · obtain ⟨c, e⟩ := h.li2.ty h1; exact row_ne (h.li1.at' x hx) e (by decide) rfl
    · show ((b.l1 ++ l).map (·.1)).Nodup
      rw [List.map_append, List.nodup_append]
      refine ⟨nd.1, hnd, fun a ha y hy => ?_⟩
      obtain ⟨x, hx, rfl⟩ := List.mem_map.1 ha
      obtain ⟨z, hz, rfl⟩ := List.mem_map.1 hy
      rcases hm z hz with h1 | h1
      · exact nd.2.2 x hx z h1
      · have := row_lt (h.li1.at' x hx); intro e; omega
    · rcases hp g hg2 with h1 | h1
      · exact h.ap g hg h1
      · obtain ⟨c, e⟩ := h.li1.ty hg; have := row_lt e; omega
theorem Bs.rowk {b : Bs} {s : Int} {k : Nat} (hs : s = (k : Int) + 1) (hk : k < 2) : b.row[2 + k]? = some (.slice (b.sp s) (b.sl s).length (b.sc s)) := by
  have hkk : k = 0 ∨ k = 1 := by omega
  rcases hkk with rfl | rfl
  · obtain rfl : s = 1 := by omega
    rfl
  · obtain rfl : s = 2 := by omega
    rfl
/-- what a turn may touch when one of its book's lists changes and it is told. -/
def cfp (b : Bs) (T B : Nat) (ve : Value) (s : Int) (j : Nat) : Prop := tfp T B ve j ∨ OfP (b.sp s) j
theorem Tn.list {w w' : World} {T B k : Nat} {b : Bs} {ve : Value} {es : List Ev} {s : Int} {p : Option Addr} {c : Nat} {l : LO} (h : Tn w T B b ve es) (hk : Kp (sfp b B s) w w') (hb : Bm w' B (b.put s p c l)) : Tn w' T B (b.put s p c l) ve es := by
  refine ⟨hb, hk.row h.row ?_, own_same h.ev (fun j hj => ?_)⟩
  · rintro (h1 | h1)
    · exact row_ne h.row h.bm.row (by decide) h1
    · obtain ⟨c, e⟩ := (h.bm.sli s).ty h1; exact row_ne h.row e (by decide) rfl
  · obtain ⟨c, e⟩ := own_ty h.ev hj
    refine hk.obj j (row_lt e) ?_
    rintro (h1 | h1)
    · exact row_ne e h.bm.row (by decide) h1
    · obtain ⟨c', e'⟩ := (h.bm.sli s).ty h1; exact row_ne e e' (by decide) rfl
theorem Bs.sl_le (b : Bs) (s : Int) : (b.sl s).length ≤ b.l1.length + b.l2.length := by unfold Bs.sl; split <;> omega
theorem Bs.put_seq (b : Bs) (s : Int) (p : Option Addr) (c : Nat) (l : LO) : (b.put s p c l).seq = b.seq := by unfold Bs.put; split <;> rfl
theorem Bs.del_seq (b : Bs) (s : Int) (i : Nat) : (b.del s i).seq = b.seq := b.put_seq ..
theorem cancel_any (T B : Nat) (b : Bs) (ve : Value) (es : List Ev) (id r : Int) (o : Or) (s : Int) (k i : Nat) (w : World) (h : Tn w T B b ve es) (hn : es.length ≤ 17179869184) (hl : b.l1.length + b.l2.length ≤ 1048576) (hs : s = (k : Int) + 1) (hk : k < 2) (hf : fo b id = (o, s, true)) (hi : fnd id (b.sl s) = (i : Int)) (hq : IntKind.u64.wrap (o.vi + o.hi) = o.vi + o.hi) :
    Calls Try.prog 27 #[.pointer (some ⟨T, 0, none⟩), .int .u64 id, .int .i64 r] w fun e w' => e = .returned (.tuple #[]) ∧ Told w T B (b.del s i).told ve (es ++ [(evC id (o.vi + o.hi) r).num (nx b.seq)]) (cfp b T B ve s) w' := by
  have hil : i < (b.sl s).length := by have := fnd_ge id (b.sl s); omega
  have C := hid (findB_any B b id w h.bm hl)
  rw [hf] at C
  simp only at C
  have hTB : T ≠ B := row_ne h.row h.bm.row (by decide)
  have hsl := b.sl_le s
  have CS := hid (fun U => side_any B k U hk)
  rw [← hs] at CS
  have CF := hid (fun (U : World) (hU : Below w.heap.size w U) => find_any (b.sp s) (b.sc s) (b.sl s) id U ((h.bm.sli s).on hU) (by omega))
  rw [hi] at CF
  have CD := hid (fun (U : World) (hU : Below w.heap.size w U) => (drop_any B (2 + k) b.row (b.sp s) (b.sc s) (b.sl s) i U (row_on h.bm.row hU) (Bs.rowk hs hk) ((h.bm.sli s).on hU) hil (by omega) (h.bm.snd s)).mono (R' := fun e w' => e = .returned (.tuple #[]) ∧ Tn w' T B (b.del s i) ve es ∧ Kp (sfp b B s) U w') (fun e w' hh => by
    obtain ⟨rfl, h1, h2, h3⟩ := hh
    have hkp : Kp (sfp b B s) U w' := h3
    have hb := (h.bm.on hU).list (p := b.sp s) (c := b.sc s) (l := (b.sl s).eraseIdx i) hs hk h1 h2 hkp (fun g hg => .inl hg) (fun x hx => .inl (List.mem_of_mem_eraseIdx hx)) (List.Nodup.sublist (List.Sublist.map _ (List.eraseIdx_sublist _ _)) (h.bm.snd s))
    exact ⟨rfl, (h.on hU).list (k := k) hkp hb, hkp⟩))
  have CE := hid (fun (U : World) (hU : Tn U T B (b.del s i) ve es) => end_any T B (b.del s i) ve es id (o.vi + o.hi) r U hU hn)
  have HNS := hid (fun (j : Nat) (hj : w.heap.size ≤ j) => (show ¬ sfp b B s j from by
    rintro (e | e)
    · have := row_lt h.bm.row; omega
    · obtain ⟨c, e'⟩ := (h.bm.sli s).ty e; have := row_lt e'; omega))
  have HT := hid h
  have HCL := hid (fun (U : World) (hU : Below w.heap.size w U) => And.intro (row_cell (row_on h.row hU) 0) ((row_cell (row_on h.bm.row hU) (2 + k)).trans (Bs.rowk hs hk)))
  have t0 := row_cell h.row 0
  simp only [List.getElem?_toArray, List.getElem?_cons_succ, List.getElem?_cons_zero] at t0 HCL
  have hq' := hq
  clear hs hf hi h hq
  unfold orow at C
  go_enter Try.func27, Try.ntmps27
  go_upto_region 1 with (go_at_call 51; with_reducible refine (C.out).mono ?_; rintro e w1 ⟨rfl, hb1⟩; have HB1 := hid hb1; clear hb1)
  obtain ⟨W1, hW1⟩ : ∃ W, w1.alloc (.cells #[.int .u64 o.id, .int .u32 o.mb, .int .i64 o.ty, .int .i64 o.pr, .int .u64 o.vi, .int .u64 o.hi, .int .u64 o.pk] 86) = W := ⟨_, rfl⟩
  have HW1 := hid (show Below w.heap.size w W1 from by rw [← hW1]; exact btr HB1.out (ball _ _))
  have HR1 := hid (show W1.heap[w1.heap.size]? = some (.cells #[.int .u64 o.id, .int .u32 o.mb, .int .i64 o.ty, .int .i64 o.pr, .int .u64 o.vi, .int .u64 o.hi, .int .u64 o.pk] 86 (0, 0)) from by rw [← hW1]; exact World.alloc_heap_new _ _)
  rw [hW1]
  clear hW1 t0
  obtain ⟨t1, b1⟩ := HCL.out W1 HW1.out
  go_wp2_with (first
    | (go_at_call 35; with_reducible refine (CS.out _).mono ?_; rintro e w2 ⟨rfl, rfl⟩)
    | (go_at_call 53; with_reducible refine (CF.out _ HW1.out).mono ?_; rintro e w2 ⟨rfl, hb2⟩; have HB2 := hid (btr HW1.out hb2); have HB12 := hid hb2; clear hb2)
    | (go_at_call 52; with_reducible refine (CD.out _ HB2.out).mono ?_; rintro e w3 ⟨rfl, h3, k3⟩; have H3 := hid h3; have K3 := hid k3; have hRR := k3.row (row_on HR1.out HB12.out) (HNS.out _ HB1.out.size); have r4 := row_cell hRR 4; have r5 := row_cell hRR 5; simp only [List.getElem?_toArray, List.getElem?_cons_succ, List.getElem?_cons_zero] at r4 r5; clear h3 k3 hRR)
    | (go_at_call 54; with_reducible refine (CE.out _ H3.out).mono ?_; rintro e w4 ⟨rfl, h4⟩; have H4 := hid h4; clear h4))
  go_end0
  refine ⟨rfl, ?_⟩
  obtain ⟨ve', h1, h2, h3⟩ := H4.out
  rw [Bs.del_seq] at h1
  refine ⟨ve', h1, fun j hj => (h2 j hj).imp (fun h => h) (fun h => ?_), ?_⟩
  · exact Nat.le_trans (Nat.le_trans HB2.out.size K3.out.size) h
  · refine ((Kp.of _ HB2.out).trans K3.out ?_).trans h3 ?_
    · rintro j hj (h | h)
      · exact .inl (.inr (.inl h))
      · exact .inr h
    · exact fun j hj h => .inl h
end Go.Proofs.Ytojmcfkbekodpaa
