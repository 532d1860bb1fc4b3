/-
  pdqsort sorts: what each part of it gives.
-/
import Derived.Test.YtjpkodllemoniaaDoorSsE
import Derived.Test.YtjpkodllemoniaaDoorSsF
import Derived.Test.YtjpkodllemoniaaDoorSsG
import Derived.Test.YtjpkodllemoniaaDoorSsH
namespace Go.Proofs.YtjpkodllemoniaaDoor.Sr
open Go.RowKit Go.Deep
set_option linter.unusedVariables false
set_option linter.unusedSimpArgs false
set_option maxHeartbeats 8000000
set_option maxRecDepth 100000
attribute [local go_sem ↓] Go.wp_at_zero Go.wp_at_succ
theorem swo : Go.Sort.SWO lt := Go.Sort.swo_ltInt
theorem not_t {x : Bool} (e : (!x) = true) : x = false := by cases x <;> simp_all
/-- what is sorted in a part is so in the whole. -/
def Iv (a0 b0 : Nat) (l0 : List Int) (a b : Nat) (l : List Int) : Prop := Go.Sort.Below lt a b l.toArray ∧ ∀ R, Go.Sort.PermIn a b l.toArray R → Go.Sort.SortedIn lt a b R → Go.Sort.PermIn a0 b0 l0.toArray R ∧ Go.Sort.SortedIn lt a0 b0 R
/-- it is done. -/
def Dn (a0 b0 : Nat) (l0 l : List Int) : Prop := Go.Sort.PermIn a0 b0 l0.toArray l.toArray ∧ Go.Sort.SortedIn lt a0 b0 l.toArray
def Ge (a p : Nat) (l : List Int) : Prop := 0 < a ∧ decide (gd l (a - 1) < gd l p) = false
/-- behind a partition. -/
def Pt (a0 b0 : Nat) (l0 : List Int) (a b m : Nat) (l : List Int) : Prop := Go.Sort.Below lt a m l.toArray ∧ Go.Sort.Below lt (m + 1) b l.toArray ∧
  (∀ L, Go.Sort.PermIn a m l.toArray L → Go.Sort.SortedIn lt a m L → Go.Sort.Below lt (m + 1) b L ∧ ∀ R, Go.Sort.PermIn (m + 1) b L R → Go.Sort.SortedIn lt (m + 1) b R → Go.Sort.PermIn a0 b0 l0.toArray R ∧ Go.Sort.SortedIn lt a0 b0 R) ∧
  (∀ L, Go.Sort.PermIn (m + 1) b l.toArray L → Go.Sort.SortedIn lt (m + 1) b L → Go.Sort.Below lt a m L ∧ ∀ R, Go.Sort.PermIn a m L R → Go.Sort.SortedIn lt a m R → Go.Sort.PermIn a0 b0 l0.toArray R ∧ Go.Sort.SortedIn lt a0 b0 R)
theorem Iv.perm {a0 b0 : Nat} {l0 : List Int} {a b : Nat} {l l' : List Int} (h : Iv a0 b0 l0 a b l) (hb : b ≤ l.length) (hp : Go.Sort.PermIn a b l.toArray l'.toArray) : Iv a0 b0 l0 a b l' :=
  ⟨h.1.perm (by simpa using hb) hp, fun R h1 h2 => h.2 R (Go.Sort.permIn_trans _ _ _ _ _ hp h1) h2⟩
theorem Iv.done {a0 b0 : Nat} {l0 : List Int} {a b : Nat} {l l' : List Int} (h : Iv a0 b0 l0 a b l) (hp : Go.Sort.PermIn a b l.toArray l'.toArray) (hs : Go.Sort.SortedIn lt a b l'.toArray) : Dn a0 b0 l0 l' := h.2 _ hp hs
theorem Sp.call {f : Nat} {args : Array Value} {w0 U : World} {g n : Nat} {F F' : List Int → Prop} (hS : Sp w0 U g n F) {R : Ending → Prop} (h : ∀ l, l.length = n → F l → Uz U g n l → Calls Tryd.prog f args U fun e w' => R e ∧ Sp U w' g n F') : Calls Tryd.prog f args U fun e w' => R e ∧ Hid (Sp w0 w' g n F') := by
  obtain ⟨l, q1, q2, q3⟩ := hS
  exact (h l q2.len q1 q2).mono (fun e w' hh => ⟨hh.1, hid (Sp.trans q3 hh.2)⟩)
section
variable {w0 U : World} {g cap n a0 b0 : Nat} {l0 : List Int} {a b : Nat}
theorem insT (hS : Sp w0 U g n (Iv a0 b0 l0 a b)) (h1 : a ≤ b) (h2 : b ≤ n) (hn : n ≤ 1152921504606846976) : Calls Tryd.prog 57 #[.slice (some ⟨g, 0, none⟩) n cap, .int .i64 a, .int .i64 b] U fun e w' => e = .returned (.tuple #[]) ∧ Hid (Sp w0 w' g n (Dn a0 b0 l0)) :=
  Sp.call hS (R := fun e => e = .returned (.tuple #[])) (fun l hl hf hu => (ins_ex g cap n l a b U hu h1 h2 (by omega)).mono (fun e w' hh => ⟨hh.1, hh.2.mono (fun l' _ e' => by
    obtain ⟨k1, k2⟩ := Go.Sort.insertionSort_holds swo l.toArray a b h1 (by simp; omega)
    rw [← e'] at k1 k2
    exact hf.done k1 k2)⟩))
theorem heapT (hS : Sp w0 U g n (Iv a0 b0 l0 a b)) (h1 : a ≤ b) (h2 : b ≤ n) (hn : n ≤ 1152921504606846976) : Calls Tryd.prog 58 #[.slice (some ⟨g, 0, none⟩) n cap, .int .i64 a, .int .i64 b] U fun e w' => e = .returned (.tuple #[]) ∧ Hid (Sp w0 w' g n (Dn a0 b0 l0)) :=
  Sp.call hS (R := fun e => e = .returned (.tuple #[])) (fun l hl hf hu => (heap_ex g cap n l a b U hu h1 h2 hn).mono (fun e w' hh => ⟨hh.1, hh.2.mono (fun l' _ e' => by
    obtain ⟨k1, k2⟩ := Go.Sort.heapSort_holds swo l.toArray a b h1 (by simp; omega)
    rw [← e'] at k1 k2
    exact hf.done k1 k2)⟩))
theorem brkT (hS : Sp w0 U g n (Iv a0 b0 l0 a b)) (h1 : a ≤ b) (h2 : b ≤ n) (hn : n ≤ 1152921504606846976) : Calls Tryd.prog 59 #[.slice (some ⟨g, 0, none⟩) n cap, .int .i64 a, .int .i64 b] U fun e w' => e = .returned (.tuple #[]) ∧ Hid (Sp w0 w' g n (Iv a0 b0 l0 a b)) :=
  Sp.call hS (R := fun e => e = .returned (.tuple #[])) (fun l hl hf hu => (brk_in g cap n l a b U hu h1 h2 hn).mono (fun e w' hh => ⟨hh.1, hh.2.mono (fun l' _ e' => hf.perm (by omega) e')⟩))
theorem revT (hS : Sp w0 U g n (Iv a0 b0 l0 a b)) (h1 : a ≤ b) (h2 : b ≤ n) (hn : n ≤ 1152921504606846976) : Calls Tryd.prog 61 #[.slice (some ⟨g, 0, none⟩) n cap, .int .i64 a, .int .i64 b] U fun e w' => e = .returned (.tuple #[]) ∧ Hid (Sp w0 w' g n (Iv a0 b0 l0 a b)) :=
  Sp.call hS (R := fun e => e = .returned (.tuple #[])) (fun l hl hf hu => (rev_in g cap n l a b U hu h1 h2 (by omega)).mono (fun e w' hh => ⟨hh.1, hh.2.mono (fun l' _ e' => hf.perm (by omega) e')⟩))
theorem pivT {F : List Int → Prop} (hS : Sp w0 U g n F) (h1 : a < b) (h2 : b ≤ n) (hn : n ≤ 1152921504606846976) : Calls Tryd.prog 60 #[.slice (some ⟨g, 0, none⟩) n cap, .int .i64 a, .int .i64 b] U fun e w' => ∃ (pv : Nat) (t : Int), e = .returned (.tuple #[.int .i64 pv, .int .i64 t]) ∧ Hid (a ≤ pv ∧ pv < b) ∧ Hid (Sp w0 w' g n F) := by
  have hS' := hS
  obtain ⟨l, q1, q2, q3⟩ := hS
  exact (piv_any g cap n l a b U q2 h1 h2 hn).mono (fun e w' hh => by obtain ⟨p, t, h3, h4, h5, h6⟩ := hh; exact ⟨p, t, h3, hid ⟨h4, h5⟩, hid (hS'.on h6)⟩)
theorem pinsT (hS : Sp w0 U g n (Iv a0 b0 l0 a b)) (h1 : a < b) (h2 : b ≤ n) (hn : n ≤ 1152921504606846976) : Calls Tryd.prog 62 #[.slice (some ⟨g, 0, none⟩) n cap, .int .i64 a, .int .i64 b] U fun e w' => ∃ q : Bool, e = .returned (.bool q) ∧ Hid ((q = true → Sp w0 w' g n (Dn a0 b0 l0)) ∧ (q = false → Sp w0 w' g n (Iv a0 b0 l0 a b))) := by
  obtain ⟨l, q1, q2, q3⟩ := hS
  have hl := q2.len
  exact (pins_ex g cap n l a b U q2 h1 h2 hn).mono (fun e w' hh => by
    obtain ⟨q, h3, h4, h5⟩ := hh
    obtain ⟨k1, k2⟩ := Go.Sort.partialInsertionSort_holds swo l.toArray a b h1 (by simp; omega) q1.1
    refine ⟨q, h3, hid ⟨fun e1 => Sp.trans q3 (h5.mono (fun l' _ e' => ?_)), fun e1 => Sp.trans q3 (h5.mono (fun l' _ e' => ?_))⟩⟩
    · have k3 := k2 (by rw [← h4]; exact e1)
      rw [← e'] at k1 k3
      exact q1.done k1 k3
    · rw [← e'] at k1
      exact q1.perm (by omega) k1)
theorem peqT {p : Nat} (hS : Sp w0 U g n (fun l => Iv a0 b0 l0 a b l ∧ Ge a p l)) (h1 : a ≤ p) (h1' : p < b) (h2 : b ≤ n) (hn : n ≤ 1152921504606846976) : Calls Tryd.prog 64 #[.slice (some ⟨g, 0, none⟩) n cap, .int .i64 a, .int .i64 b, .int .i64 p] U fun e w' => ∃ mid : Nat, e = .returned (.int .i64 mid) ∧ Hid (a < mid ∧ mid ≤ b) ∧ Hid (Sp w0 w' g n (Iv a0 b0 l0 mid b)) := by
  obtain ⟨l, ⟨q1, q4⟩, q2, q3⟩ := hS
  have hl := q2.len
  exact (peq_ex g cap n l a b p U q2 h1 h1' h2 hn).mono (fun e w' hh => by
    obtain ⟨m, h3, h4, h5⟩ := hh
    obtain ⟨k1, k2, k3, k4, k5⟩ := Go.Sort.round_eq swo (Go.Sort.partitionEqual_holds lt) q4.1 h1 h1' (by simp; omega) q1.1 (by rw [arr_get, arr_get]; exact q4.2) (show Go.Sort.partitionEqual lt l.toArray a b p = ((Go.Sort.partitionEqual lt l.toArray a b p).1, (Go.Sort.partitionEqual lt l.toArray a b p).2) from rfl)
    rw [← h4] at k1 k2 k4 k5
    refine ⟨m, h3, hid ⟨k1, k2⟩, hid (Sp.trans q3 (h5.mono (fun l' _ e' => ?_)))⟩
    rw [← e'] at k4 k5
    exact ⟨k4, fun R r1 r2 => q1.2 R (k5 R r1 r2).1 (k5 R r1 r2).2⟩)
theorem partT {p : Nat} (hS : Sp w0 U g n (Iv a0 b0 l0 a b)) (h1 : a ≤ p) (h1' : p < b) (h2 : b ≤ n) (hn : n ≤ 1152921504606846976) : Calls Tryd.prog 65 #[.slice (some ⟨g, 0, none⟩) n cap, .int .i64 a, .int .i64 b, .int .i64 p] U fun e w' => ∃ (mid : Nat) (r : Bool), e = .returned (.tuple #[.int .i64 mid, .bool r]) ∧ Hid (a ≤ mid ∧ mid < b) ∧ Hid (Sp w0 w' g n (Pt a0 b0 l0 a b mid)) := by
  obtain ⟨l, q1, q2, q3⟩ := hS
  have hl := q2.len
  exact (part_ex g cap n l a b p U q2 h1 h1' h2 hn).mono (fun e w' hh => by
    obtain ⟨m, r, h3, h4, h5⟩ := hh
    obtain ⟨k1, k2, k3, k4, k5, k6, k7⟩ := Go.Sort.round_part swo (Go.Sort.partition_holds lt) h1 h1' (by simp; omega) q1.1 (show Go.Sort.partition lt l.toArray a b p = ((Go.Sort.partition lt l.toArray a b p).1, (Go.Sort.partition lt l.toArray a b p).2.1, (Go.Sort.partition lt l.toArray a b p).2.2) from rfl)
    rw [← h4] at k1 k2 k4 k5 k6 k7
    refine ⟨m, r, h3, hid ⟨k1, k2⟩, hid (Sp.trans q3 (h5.mono (fun l' _ e' => ?_)))⟩
    rw [← e'] at k4 k5 k6 k7
    exact ⟨k4, k5, fun L r1 r2 => ⟨(k6 L r1 r2).1, fun R s1 s2 => q1.2 R ((k6 L r1 r2).2 R s1 s2).1 ((k6 L r1 r2).2 R s1 s2).2⟩, fun L r1 r2 => ⟨(k7 L r1 r2).1, fun R s1 s2 => q1.2 R ((k7 L r1 r2).2 R s1 s2).1 ((k7 L r1 r2).2 R s1 s2).2⟩⟩)
theorem leftT {m1 mid : Nat} {lim : Int} (hm1 : m1 = mid + 1) (hS : Sp w0 U g n (Pt a0 b0 l0 a b mid)) (IH : ∀ l, Uz U g n l → Go.Sort.Below lt a mid l.toArray → Calls Tryd.prog 55 #[.slice (some ⟨g, 0, none⟩) n cap, .int .i64 a, .int .i64 mid, .int .i64 lim] U fun e w' => e = .returned (.tuple #[]) ∧ Sp U w' g n (Dn a mid l)) : Calls Tryd.prog 55 #[.slice (some ⟨g, 0, none⟩) n cap, .int .i64 a, .int .i64 mid, .int .i64 lim] U fun e w' => e = .returned (.tuple #[]) ∧ Hid (Sp w0 w' g n (Iv a0 b0 l0 m1 b)) := by
  subst hm1
  exact Sp.call hS (R := fun e => e = .returned (.tuple #[])) (fun l hl hf hu => (IH l hu hf.1).mono (fun e w' hh => ⟨hh.1, hh.2.mono (fun l' _ e' => hf.2.2.1 _ e'.1 e'.2)⟩))
theorem rightT {m1 mid : Nat} {lim : Int} (hm1 : m1 = mid + 1) (hS : Sp w0 U g n (Pt a0 b0 l0 a b mid)) (IH : ∀ l, Uz U g n l → Go.Sort.Below lt m1 b l.toArray → Calls Tryd.prog 55 #[.slice (some ⟨g, 0, none⟩) n cap, .int .i64 m1, .int .i64 b, .int .i64 lim] U fun e w' => e = .returned (.tuple #[]) ∧ Sp U w' g n (Dn m1 b l)) : Calls Tryd.prog 55 #[.slice (some ⟨g, 0, none⟩) n cap, .int .i64 m1, .int .i64 b, .int .i64 lim] U fun e w' => e = .returned (.tuple #[]) ∧ Hid (Sp w0 w' g n (Iv a0 b0 l0 a mid)) := by
  subst hm1
  exact Sp.call hS (R := fun e => e = .returned (.tuple #[])) (fun l hl hf hu => (IH l hu hf.2.1).mono (fun e w' hh => ⟨hh.1, hh.2.mono (fun l' _ e' => hf.2.2.2 _ e'.1 e'.2)⟩))
end
end Go.Proofs.YtjpkodllemoniaaDoor.Sr
