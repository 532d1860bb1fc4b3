/-
  How what stands is carried on.
-/
import Derived.Test.YtojmcfkbekodpaaPe
namespace Go.Proofs.Ytojmcfkbekodpaa
open Go.RowKit Go.Deep Go.Shelf
set_option linter.unusedVariables false
set_option linter.unusedSimpArgs false
set_option maxHeartbeats 4000000
set_option maxRecDepth 100000
theorem Cg.keep {w0 : World} {F : Nat → Prop} {T B O : Nat} {b : Bs} {ve : Value} {es : List Ev} {o : Or} {s q : Int} {w w' : World} {S : Nat → Prop} (h : Cg w0 F T B O b ve es o s q w) (hk : Kp S w w') (hS : ∀ j, S j → ffp b T B O ve s j) : Kp F w0 w' :=
  h.kp.trans hk (fun j hj hs => (h.fr j (hS j hs)).resolve_right (by omega))
theorem Tn.neO {w : World} {T B O : Nat} {b : Bs} {ve : Value} {es : List Ev} {c : Array Value} (h : Tn w T B b ve es) (ho : w.heap[O]? = some (.cells c 88 (0, 0))) : ¬ tfp T B ve O := by
  rintro (e | e | e)
  · exact row_ne ho h.row (by decide) e
  · exact row_ne ho h.bm.row (by decide) e
  · obtain ⟨c', e'⟩ := own_ty h.ev e; exact row_ne ho e' (by decide) rfl
theorem Cg.told {w0 : World} {F : Nat → Prop} {T B O : Nat} {b : Bs} {ve : Value} {es es' : List Ev} {o : Or} {s q : Int} {w w' : World} (h : Cg w0 F T B O b ve es o s q w) (ht : Told w T B b.told ve es' (tfp T B ve) w') : ∃ ve', Cg w0 F T B O b.told ve' es' o s q w' := by
  obtain ⟨ve', h1, h2, h3⟩ := ht
  refine ⟨ve', h1, h3.row h.ow (h.tn.neO h.ow), h.keep h3 (fun j hj => .inl hj), fun j hj => ?_⟩
  have sz := h.kp.size
  rcases hj with (e | e | e) | hj
  · exact h.fr j (.inl (.inl e))
  · exact h.fr j (.inl (.inr (.inl e)))
  · rcases h2 j e with h' | h'
    · exact h.fr j (.inl (.inr (.inr h')))
    · exact .inr (by omega)
  · exact h.fr j (.inr hj)
theorem crow_left (o : Or) (s q q' : Int) : (crow o s q).setIfInBounds 8 (.int .u64 q') = crow o s q' := rfl
theorem Cg.left {w0 : World} {F : Nat → Prop} {T B O : Nat} {b : Bs} {ve : Value} {es : List Ev} {o : Or} {s q : Int} {w : World} (h : Cg w0 F T B O b ve es o s q w) (q' : Int) : Cg w0 F T B O b ve es o s q' (w.setCell ⟨O, 8, none⟩ (.int .u64 q')) := by
  have hk := Kp.set w O 8 (.int .u64 q')
  have hO := h.ow
  refine ⟨⟨h.tn.bm.kept hk (fun j hj => h.tn.bm.ne hO (by decide) (by decide) (by decide) hj), hk.row h.tn.row (row_ne h.tn.row hO (by decide)), own_same h.tn.ev (fun j hj => ?_)⟩, by rw [set_row _ hO, crow_left], h.keep hk (fun j hj => .inr (.inr (.inr hj))), h.fr⟩
  obtain ⟨c, e⟩ := own_ty h.tn.ev hj
  exact hk.obj j (row_lt e) (row_ne e hO (by decide))
/-- the first order of the other side is changed. -/
theorem Cg.upd {w0 : World} {F : Nat → Prop} {T B O : Nat} {b : Bs} {ve : Value} {es : List Ev} {o : Or} {s q : Int} {w w' : World} (hs : s = 1 ∨ s = 2) {f : Nat} {x x' : Or} {r : LO} (h : Cg w0 F T B O b ve es o s q w) (hl : b.sl (oth s) = (f, x) :: r) (hk : Kp (fun j => j = f) w w') (hx : w'.heap[f]? = some (.cells (orow x') 86 (0, 0))) : Cg w0 F T B O (b.put (oth s) (b.sp (oth s)) (b.sc (oth s)) ((f, x') :: r)) ve es o s q w' := by
  have hf : w.heap[f]? = some (.cells (orow x) 86 (0, 0)) := (h.tn.bm.sli (oth s)).at' (f, x) (by rw [hl]; simp)
  have e := b.put_sl (oth s) (oth_side hs) (b.sp (oth s)) (b.sc (oth s)) ((f, x') :: r)
  refine ⟨h.tn.upd (oth_side hs) hl hk hx, hk.row h.ow (row_ne h.ow hf (by decide)), h.keep hk (fun j hj => .inr (.inr (.inl (by rw [hl, hj]; simp)))), fun j hj => h.fr j ?_⟩
  unfold ffp at hj ⊢
  rw [e.1, e.2.1] at hj
  rw [hl]
  exact hj
/-- the other side's list is another one, of the same orders or fewer. -/
theorem Cg.list {w0 : World} {F : Nat → Prop} {T B O : Nat} {b : Bs} {ve : Value} {es : List Ev} {o : Or} {s q : Int} {w w' : World} (hs : s = 1 ∨ s = 2) {l : LO} (h : Cg w0 F T B O b ve es o s q w) (hm : ∀ y ∈ l, y ∈ b.sl (oth s)) (hk : Kp (sfp b B (oth s)) w w') (hb : Bm w' B (b.put (oth s) (b.sp (oth s)) (b.sc (oth s)) l)) : Cg w0 F T B O (b.put (oth s) (b.sp (oth s)) (b.sc (oth s)) l) ve es o s q w' := by
  have e := b.put_sl (oth s) (oth_side hs) (b.sp (oth s)) (b.sc (oth s)) l
  have hin : ∀ j, sfp b B (oth s) j → ffp b T B O ve s j := by
    rintro j (h' | h')
    · exact .inl (.inr (.inl h'))
    · exact .inr (.inl h')
  refine ⟨h.tn.list (k := 0) hk hb, hk.row h.ow ?_, h.keep hk hin, fun j hj => h.fr j ?_⟩
  · rintro (e' | e')
    · exact row_ne h.ow h.tn.bm.row (by decide) e'
    · obtain ⟨c, e''⟩ := (h.tn.bm.sli (oth s)).ty e'; exact row_ne h.ow e'' (by decide) rfl
  · unfold ffp at hj ⊢
    rw [e.1, e.2.1] at hj
    rcases hj with h' | h' | h' | h'
    · exact .inl h'
    · exact .inr (.inl h')
    · obtain ⟨y, hy, rfl⟩ := List.mem_map.1 h'
      exact .inr (.inr (.inl (List.mem_map.2 ⟨y, hm y hy, rfl⟩)))
    · exact .inr (.inr (.inr h'))
theorem Srt.upd {s : Int} {f g : Nat} {x x' : Or} {r : LO} (h : Srt s ((f, x) :: r)) (e : x'.pr = x.pr) : Srt s ((g, x') :: r) := by
  intro i j hi hj hij
  have := h i j (by simpa using hi) (by simpa using hj) hij
  cases i with
  | zero =>
    cases j with
    | zero => omega
    | succ j => simp only [List.getElem_cons_zero, List.getElem_cons_succ] at this ⊢; rw [e]; exact this
  | succ i =>
    cases j with
    | zero => omega
    | succ j => simpa using this
theorem agn_perm (s : Int) : ∀ l : LO, (agn s l).Perm l
  | [] => List.Perm.refl _
  | x :: r => by
    unfold agn ins
    refine (List.perm_middle).trans ?_
    rw [List.take_append_drop]
end Go.Proofs.Ytojmcfkbekodpaa
namespace Go.Proofs.Ytojmcfkbekodpaa
open Go.RowKit Go.Deep Go.Shelf
set_option linter.unusedVariables false
set_option linter.unusedSimpArgs false
set_option maxHeartbeats 1000000
theorem set_self {row : Array Value} {k : Nat} {v : Value} (h : row[k]? = some v) : row.setIfInBounds k v = row := by
  apply Array.ext_getElem?
  intro j
  rw [Array.getElem?_setIfInBounds]
  split
  · rename_i e; subst e; rw [h]; simp [(Array.getElem?_eq_some_iff.1 h).1]
  · rfl
theorem again_cg (w0 : World) (F : Nat → Prop) (T B O : Nat) (b : Bs) (ve : Value) (es : List Ev) (o : Or) (s q S : Int) (k f n : Nat) (x : Or) (r : LO) (p : Option Addr) (c : Nat) (w : World) (h : Cg w0 F T B O b ve es o s q w) (hs : s = 1 ∨ s = 2) (hS : oth s = S) (hks : S = (k : Int) + 1) (hk : k < 2) (hl : b.sl S = (f, x) :: r) (hp : b.sp S = p) (hc : b.sc S = c) (hnn : ((f, x) :: r : LO).length = n) (hn : n ≤ 1048576) (ho : Srt S ((f, x) :: r)) :
    w.cell? ⟨B, 2 + k, none⟩ = some (.slice p n c) ∧ Calls Try.prog 92 #[.slice p n c, .int .i64 ((k : Int) + 1)] w fun e w' => e = .returned (.tuple #[]) ∧ Cg w0 F T B O (b.put S p c (agn S ((f, x) :: r))) ve es o s q w' := by
  have hli := h.tn.bm.sli S
  have hrk := Bs.rowk (b := b) hks hk
  have hnd := h.tn.bm.snd S
  rw [hl] at hnd
  rw [hl, hp, hc] at hli hrk
  refine ⟨by rw [row_cell h.tn.bm.row, hrk, hnn], ?_⟩
  have A := again_any p c S (f, x) r w hli (by rw [hnn]; exact hn) ho
  rw [hnn, hks] at A
  refine A.mono ?_
  rintro e w' ⟨rfl, d2, d3⟩
  refine ⟨rfl, ?_⟩
  rw [← hks] at d2
  have hkp : Kp (sfp b B S) w w' := d3.mono (fun j _ hj => .inr (by rw [hp]; exact hj))
  have hBr : w'.heap[B]? = some (.cells (b.row.setIfInBounds (2 + k) (.slice p (agn S ((f, x) :: r)).length c)) 113 (0, 0)) := by
    have h1 := d3.row h.tn.bm.row (fun e => by obtain ⟨c', e'⟩ := hli.ty e; exact row_ne h.tn.bm.row e' (by decide) rfl)
    rw [h1, agn_len, set_self hrk]
  have hb := h.tn.bm.list (p := p) (c := c) (l := agn S ((f, x) :: r)) hks hk hBr d2 hkp (fun g hg => .inl (by rw [hp]; exact hg)) (fun y hy => .inl (by rw [hl]; exact (agn_perm S _).mem_iff.1 hy)) (((agn_perm S _).map _).nodup_iff.2 hnd)
  have hcl := Cg.list (s := s) hs (l := agn S ((f, x) :: r)) h (fun y hy => by rw [hS, hl]; exact (agn_perm S _).mem_iff.1 hy) (by rw [hS]; exact hkp) (by rw [hS, hp, hc]; exact hb)
  rw [hS, hp, hc] at hcl
  exact hcl
end Go.Proofs.Ytojmcfkbekodpaa
