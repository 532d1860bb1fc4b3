/-
  Put and Drop of both, in one form; a pair; turn.
-/
import Derived.Test.YthidnipmkffilaaIyG
namespace Go.Proofs.Ythidnipmkffilaa
open Go.RowKit Go.Deep
set_option linter.unusedVariables false
set_option linter.unusedSimpArgs false
set_option maxHeartbeats 4000000
set_option maxRecDepth 100000
def putT (n room : Nat) (T : Ix.Tab) (k v : Int) (i : Nat) : Int × Ix.Tab :=
  match T i with
  | some _ => (81, T)
  | none => if Ix.cnt T n < room then (0, Ix.up T i (some (k, v))) else (80, T)
def dropT (n : Nat) (T : Ix.Tab) (i : Nat) : Int × Bool × Ix.Tab :=
  match T i with
  | some x => (x.2, true, Ix.dr n (hm n) T i)
  | none => (0, false, T)
theorem put_u {w : World} {X P n room : Nat} {T : Ix.Tab} (h : Lx w X P n room T) {k : Int} (v : Int) (h0 : 0 ≤ k) (h1 : k ≤ 18446744073709551615) {i : Nat} (hF : Ix.Fd n (hm n) T k i) :
    Calls Try.prog 20 #[.pointer (some ⟨X, 0, none⟩), .int .u64 k, .int .i64 v] w fun e w' => e = .returned (.int .i64 (putT n room T k v i).1) ∧ Lx w' X P n room (putT n room T k v i).2 ∧ Kp (fun b => b = X ∨ b = P) w w' := by
  cases hi : T i with
  | some x =>
    have e : putT n room T k v i = (81, T) := by unfold putT; rw [hi]
    rw [e]
    exact (put_there h v hF hi).mono fun e w' ⟨h1, h2⟩ => ⟨h1, h.kp h2 (fun h => h) (fun h => h), h2.mono (fun _ _ h => h.elim)⟩
  | none =>
    by_cases hr : Ix.cnt T n < room
    · have e : putT n room T k v i = (0, Ix.up T i (some (k, v))) := by unfold putT; rw [hi]; simp only [if_pos hr]
      rw [e]
      exact put_new h v h0 h1 hF hi hr
    · have e : putT n room T k v i = (80, T) := by unfold putT; rw [hi]; simp only [if_neg hr]
      rw [e]
      exact (put_full h v hF hi (by have := h.le; omega)).mono fun e w' ⟨h1, h2⟩ => ⟨h1, h.kp h2 (fun h => h) (fun h => h), h2.mono (fun _ _ h => h.elim)⟩
theorem rput_u {w : World} {X P n room : Nat} {T : Ix.Tab} (h : Rx w X P n room T) {k : Int} (v : Int) (h0 : 0 ≤ k) (h1 : k ≤ 18446744073709551615) {i : Nat} (hF : Ix.Fd n (hm n) T k i) :
    Calls Try.prog 26 #[.pointer (some ⟨X, 0, none⟩), .int .u64 k, .int .i64 v] w fun e w' => e = .returned (.int .i64 (putT n room T k v i).1) ∧ Rx w' X P n room (putT n room T k v i).2 ∧ Kp (fun b => b = X ∨ b = P) w w' := by
  cases hi : T i with
  | some x =>
    have e : putT n room T k v i = (81, T) := by unfold putT; rw [hi]
    rw [e]
    exact (rput_there h v hF hi).mono fun e w' ⟨h1, h2⟩ => ⟨h1, h.kp h2 (fun h => h) (fun h => h), h2.mono (fun _ _ h => h.elim)⟩
  | none =>
    by_cases hr : Ix.cnt T n < room
    · have e : putT n room T k v i = (0, Ix.up T i (some (k, v))) := by unfold putT; rw [hi]; simp only [if_pos hr]
      rw [e]
      exact rput_new h v h0 h1 hF hi hr
    · have e : putT n room T k v i = (80, T) := by unfold putT; rw [hi]; simp only [if_neg hr]
      rw [e]
      exact (rput_full h v hF hi (by have := h.le; omega)).mono fun e w' ⟨h1, h2⟩ => ⟨h1, h.kp h2 (fun h => h) (fun h => h), h2.mono (fun _ _ h => h.elim)⟩
theorem put_tidy {n room : Nat} {T : Ix.Tab} (t : Ix.Tidy n (hm n) T) {k : Int} (v : Int) {i : Nat} (hn : 0 < n) (hF : Ix.Fd n (hm n) T k i) : Ix.Tidy n (hm n) (putT n room T k v i).2 := by
  unfold putT
  cases hi : T i with
  | some x => exact t
  | none =>
    simp only
    split
    · exact t.put v (hm_lt hn k) hF hi
    · exact t
theorem fd_key {n : Nat} {T : Ix.Tab} {k : Int} {i : Nat} (hF : Ix.Fd n (hm n) T k i) {x : Int × Int} (hi : T i = some x) : T i = some (k, x.2) := by
  rcases hF.here with h | ⟨v, h⟩
  · rw [h] at hi; cases hi
  · rw [h] at hi ⊢; injection hi with hi; rw [← hi]
theorem drop_u {w : World} {X P n room : Nat} {T : Ix.Tab} (h : Lx w X P n room T) (ht : Ix.Tidy n (hm n) T) {k : Int} {i : Nat} (hF : Ix.Fd n (hm n) T k i) :
    Calls Try.prog 19 #[.pointer (some ⟨X, 0, none⟩), .int .u64 k] w fun e w' => e = .returned (.tuple #[.int .i64 (dropT n T i).1, .bool (dropT n T i).2.1]) ∧ Lx w' X P n room (dropT n T i).2.2 ∧ Ix.Tidy n (hm n) (dropT n T i).2.2 ∧ Kp (fun b => b = X ∨ b = P) w w' := by
  cases hi : T i with
  | some x =>
    have e : dropT n T i = (x.2, true, Ix.dr n (hm n) T i) := by unfold dropT; rw [hi]
    rw [e]
    exact (drop_there h ht hF.lt (fd_key hF hi)).mono fun e w' ⟨h1, h2, h3, _, _, h4⟩ => ⟨h1, h2, h3, h4⟩
  | none =>
    have e : dropT n T i = (0, false, T) := by unfold dropT; rw [hi]
    rw [e]
    exact (drop_none h hF hi).mono fun e w' ⟨h1, h2⟩ => ⟨h1, h.kp h2 (fun h => h) (fun h => h), ht, h2.mono (fun _ _ h => h.elim)⟩
theorem rdrop_u {w : World} {X P n room : Nat} {T : Ix.Tab} (h : Rx w X P n room T) (ht : Ix.Tidy n (hm n) T) {k : Int} {i : Nat} (hF : Ix.Fd n (hm n) T k i) :
    Calls Try.prog 28 #[.pointer (some ⟨X, 0, none⟩), .int .u64 k] w fun e w' => e = .returned (.tuple #[.int .i64 (dropT n T i).1, .bool (dropT n T i).2.1]) ∧ Rx w' X P n room (dropT n T i).2.2 ∧ Kp (fun b => b = X ∨ b = P) w w' := by
  cases hi : T i with
  | some x =>
    have e : dropT n T i = (x.2, true, Ix.dr n (hm n) T i) := by unfold dropT; rw [hi]
    rw [e]
    exact rdrop_there h ht hF.lt (fd_key hF hi)
  | none =>
    have e : dropT n T i = (0, false, T) := by unfold dropT; rw [hi]
    rw [e]
    exact (rdrop_none h hF hi).mono fun e w' ⟨h1, h2⟩ => ⟨h1, h.kp h2 (fun h => h) (fun h => h), h2.mono (fun _ _ h => h.elim)⟩
theorem get_u {w : World} {X P n room : Nat} {T : Ix.Tab} (h : Lx w X P n room T) {k : Int} {i : Nat} (hF : Ix.Fd n (hm n) T k i) :
    Calls Try.prog 21 #[.pointer (some ⟨X, 0, none⟩), .int .u64 k] w fun e w' => e = .returned (.tuple #[.int .i64 (eV (T i)), .bool (eU (T i))]) ∧ Kp (fun _ => False) w w' :=
  (get_any h k).mono fun e w' ⟨j, h1, h2, h3⟩ => by
    have := Ix.Fd.uniq (hm_lt (by have := h.pos; omega) k) h2 hF
    subst this
    exact ⟨h1, h3⟩
theorem rget_u {w : World} {X P n room : Nat} {T : Ix.Tab} (h : Rx w X P n room T) {k : Int} {i : Nat} (hF : Ix.Fd n (hm n) T k i) :
    Calls Try.prog 27 #[.pointer (some ⟨X, 0, none⟩), .int .u64 k] w fun e w' => e = .returned (.tuple #[.int .i64 (eV (T i)), .bool (eU (T i))]) ∧ Kp (fun _ => False) w w' :=
  (rget_any h k).mono fun e w' ⟨j, h1, h2, h3⟩ => by
    have := Ix.Fd.uniq (hm_lt (by have := h.pos; omega) k) h2 hF
    subst this
    exact ⟨h1, h3⟩
/-- an index by the program and by the document. -/
structure Pa (W : World) (X P R Q n room : Nat) (T : Ix.Tab) : Prop where
  lx : Lx W X P n room T
  rx : Rx W R Q n room T
  td : Ix.Tidy n (hm n) T
theorem lr_ne {W : World} {X P R Q n room m rm : Nat} {T T' : Ix.Tab} (h : Lx W X P n room T) (k : Rx W R Q m rm T') : R ≠ X ∧ R ≠ P ∧ Q ≠ X ∧ Q ≠ P := by
  obtain ⟨c1, e1, _⟩ := h.pl
  obtain ⟨c2, e2, _⟩ := k.pl
  refine ⟨?_, ?_, ?_, ?_⟩ <;> rintro rfl
  · have := h.row; rw [k.row] at this; simp at this
  · rw [k.row] at e1; simp at e1
  · have := h.row; rw [e2] at this; simp at this
  · rw [e2] at e1; simp at e1
theorem Pa.kp {B : Nat → Prop} {W W' : World} {X P R Q n room : Nat} {T : Ix.Tab} (h : Pa W X P R Q n room T) (k : Kp B W W') (hX : ¬ B X) (hP : ¬ B P) (hR : ¬ B R) (hQ : ¬ B Q) : Pa W' X P R Q n room T := ⟨h.lx.kp k hX hP, h.rx.kp k hR hQ, h.td⟩
theorem Pa.on {W W' : World} {X P R Q n room : Nat} {T : Ix.Tab} (h : Pa W X P R Q n room T) (b : Below W.heap.size W W') : Pa W' X P R Q n room T := h.kp (Kp.ofBelow (fun _ => False) b) (fun h => h) (fun h => h) (fun h => h) (fun h => h)
theorem Pa.fd {W : World} {X P R Q n room : Nat} {T : Ix.Tab} (h : Pa W X P R Q n room T) (k : Int) : ∃ i, Ix.Fd n (hm n) T k i := by
  obtain ⟨e, he, hf⟩ := h.lx.free
  exact Ix.fd_go (hm_lt (by have := h.lx.pos; omega) k) he hf
/-- what turn does to a table. -/
def trn (n room : Nat) (T : Ix.Tab) (k : Int) (i : Nat) : Bool × Ix.Tab :=
  match T i with
  | some _ => (true, Ix.dr n (hm n) T i)
  | none => if Ix.cnt T n < room then (true, Ix.up T i (some (k, 4242))) else (false, T)
theorem trn_some {n room : Nat} {T : Ix.Tab} {k : Int} {i : Nat} {x : Int × Int} (h : T i = some x) : trn n room T k i = (true, (dropT n T i).2.2) := by unfold trn dropT; rw [h]
theorem trn_none {n room : Nat} {T : Ix.Tab} {k : Int} {i : Nat} (h : T i = none) : trn n room T k i = ((putT n room T k 4242 i).1 == 0, (putT n room T k 4242 i).2) := by
  unfold trn putT; rw [h]; simp only
  split <;> rfl
theorem turn_any {W : World} {X P n room : Nat} {T : Ix.Tab} (R : Nat) (h : Lx W X P n room T) (td : Ix.Tidy n (hm n) T) {k : Int} (h0 : 0 ≤ k) (h1 : k ≤ 18446744073709551615) {i : Nat} (hF : Ix.Fd n (hm n) T k i) :
    Calls Try.prog 42 #[.agg #[.pointer (some ⟨X, 0, none⟩), .pointer (some ⟨R, 0, none⟩)], .int .u64 k] W fun e w' => e = .returned (.bool (trn n room T k i).1) ∧ Lx w' X P n room (trn n room T k i).2 ∧ Ix.Tidy n (hm n) (trn n room T k i).2 ∧ Kp (fun b => b = X ∨ b = P) W w' := by
  have hb := ball W (.cells #[.pointer (some ⟨X, 0, none⟩), .pointer (some ⟨R, 0, none⟩)] 25)
  have hr := heap_alloc_new W (.cells #[.pointer (some ⟨X, 0, none⟩), .pointer (some ⟨R, 0, none⟩)] 25)
  obtain ⟨V, hV⟩ : ∃ V, W.alloc (.cells #[.pointer (some ⟨X, 0, none⟩), .pointer (some ⟨R, 0, none⟩)] 25) = V := ⟨_, rfl⟩
  rw [hV] at hb hr
  have HKB := hid (show Kp (fun b => b = X ∨ b = P) W V from Kp.ofBelow _ hb)
  have hL := h.kp (Kp.ofBelow (fun _ => False) hb) (fun h => h) (fun h => h)
  have HG := hid (get_u hL hF)
  have HL := hid hL
  have HR := hid hr
  have HV := hid hV
  have HTD := hid td
  have HF := hid hF
  have HN := hid (show 0 < n from by have := h.pos; omega)
  have c0 := row_cell hr 0
  simp only [List.getElem?_toArray, List.getElem?_cons_zero] at c0
  have hneB : ∀ g c, V.heap[W.heap.size]? = some (Obj.cells c g (0, 0)) → g ≠ 69 → g ≠ 71 → ¬ (W.heap.size = X ∨ W.heap.size = P) := fun g c hc a b => by
    rintro (e | e)
    · rw [e, hL.row] at hc; simp at hc; exact a hc.2.symm
    · obtain ⟨cs, e1, _⟩ := hL.pl
      rw [e, e1] at hc; simp at hc; exact b hc.2.symm
  have HNB := hid (hneB 25 _ hr (by decide) (by decide))
  have HHI := hid (show ∀ U, Kp (fun _ => False) V U → U.cell? ⟨W.heap.size, 0, none⟩ = some (.pointer (some ⟨X, 0, none⟩)) from fun U hU => by
    have := row_cell (hU.row hr (fun h => h)) 0
    simpa using this)
  clear h td hF hb hr hV hL hneB
  cases hi : T i with
  | some x =>
    rw [trn_some hi]
    rw [hi] at HG
    simp only [eV, eU] at HG
    have HD := hid (show ∀ U, Kp (fun _ => False) V U → Calls Try.prog 19 #[.pointer (some ⟨X, 0, none⟩), .int .u64 k] U fun e w' => e = .returned (.tuple #[.int .i64 (dropT n T i).1, .bool true]) ∧ Lx w' X P n room (dropT n T i).2.2 ∧ Ix.Tidy n (hm n) (dropT n T i).2.2 ∧ Kp (fun b => b = X ∨ b = P) U w' from fun U hU => by
      have := drop_u (HL.out.kp hU (fun h => h) (fun h => h)) HTD.out HF.out
      have e : (dropT n T i).2.1 = true := by unfold dropT; rw [hi]
      rw [e] at this
      exact this)
    clear hi
    go_enter Try.func42, Try.ntmps42
    go_upto_region 1 with fail
    have e0 := HV.out
    rw [e0]
    clear e0
    go_upto_region 3 with (go_at_call 21; with_reducible refine (HG.out).mono ?_; rintro e w1 ⟨rfl, hk1⟩; have HK1 := hid hk1; have d0 := HHI.out w1 hk1; clear hk1)
    go_wp2_with (go_at_call 19; with_reducible refine (HD.out w1 HK1.out).mono ?_; rintro e w2 ⟨rfl, a1, a2, a3⟩; have HA := hid (And.intro a1 (And.intro a2 a3)); clear a1 a2 a3)
    go_ret
    exact ⟨rfl, HA.out.1, HA.out.2.1, (HKB.out.trans (HK1.out.mono (fun _ _ h => h.elim))).trans HA.out.2.2⟩
  | none =>
    rw [trn_none hi]
    rw [hi] at HG
    simp only [eV, eU] at HG
    have HD := hid (show ∀ U, Kp (fun _ => False) V U → Calls Try.prog 20 #[.pointer (some ⟨X, 0, none⟩), .int .u64 k, .int .i64 4242] U fun e w' => e = .returned (.int .i64 (putT n room T k 4242 i).1) ∧ Lx w' X P n room (putT n room T k 4242 i).2 ∧ Kp (fun b => b = X ∨ b = P) U w' from fun U hU => put_u (HL.out.kp hU (fun h => h) (fun h => h)) 4242 h0 h1 HF.out)
    have HT := hid (put_tidy (room := room) HTD.out 4242 HN.out HF.out)
    clear hi
    go_enter Try.func42, Try.ntmps42
    go_upto_region 1 with fail
    have e0 := HV.out
    rw [e0]
    clear e0
    go_upto_region 5 with (go_at_call 21; with_reducible refine (HG.out).mono ?_; rintro e w1 ⟨rfl, hk1⟩; have HK1 := hid hk1; have d0 := HHI.out w1 hk1; clear hk1)
    go_wp2_with (go_at_call 20; with_reducible refine (HD.out w1 HK1.out).mono ?_; rintro e w2 ⟨rfl, a1, a3⟩; have HA := hid (And.intro a1 a3); clear a1 a3)
    go_ret
    exact ⟨rfl, HA.out.1, HT.out, (HKB.out.trans (HK1.out.mono (fun _ _ h => h.elim))).trans HA.out.2⟩
end Go.Proofs.Ythidnipmkffilaa
