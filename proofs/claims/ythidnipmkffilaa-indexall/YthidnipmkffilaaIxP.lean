/-
  Put, Drop, Get of any key, as a map's.
-/
import Derived.Test.YthidnipmkffilaaIxE
namespace Go.Proofs.Ythidnipmkffilaa
open Go.RowKit Go.Deep
set_option linter.unusedVariables false
set_option linter.unusedSimpArgs false
/-- what Put answers, and what becomes of the table. -/
def PutR (n room : Nat) (T : Ix.Tab) (k v : Int) (c : Int) (T' : Ix.Tab) : Prop :=
  (c = 81 ∧ T' = T ∧ ∃ u, Ix.Has n T k u) ∨ (c = 80 ∧ T' = T ∧ (∀ u, ¬ Ix.Has n T k u) ∧ Ix.cnt T n = room) ∨
  (c = 0 ∧ (∀ u, ¬ Ix.Has n T k u) ∧ Ix.cnt T n < room ∧ (∀ k' v', Ix.Has n T' k' v' ↔ (k' = k ∧ v' = v) ∨ Ix.Has n T k' v') ∧ Ix.cnt T' n = Ix.cnt T n + 1)
/-- what Drop answers, and what becomes of the table. -/
def DropR (n : Nat) (T : Ix.Tab) (k : Int) (v : Int) (b : Bool) (T' : Ix.Tab) : Prop :=
  (b = false ∧ v = 0 ∧ T' = T ∧ ∀ u, ¬ Ix.Has n T k u) ∨ (b = true ∧ Ix.Has n T k v ∧ (∀ k' v', Ix.Has n T' k' v' ↔ k' ≠ k ∧ Ix.Has n T k' v') ∧ Ix.cnt T' n + 1 = Ix.cnt T n)
def GetR (n : Nat) (T : Ix.Tab) (k : Int) (v : Int) (b : Bool) : Prop :=
  (b = false ∧ v = 0 ∧ ∀ u, ¬ Ix.Has n T k u) ∨ (b = true ∧ Ix.Has n T k v)
theorem put_any {w : World} {X P n room : Nat} {T : Ix.Tab} (h : Lx w X P n room T) (ht : Ix.Tidy n (hm n) T) {k : Int} (v : Int) (h0 : 0 ≤ k) (h1 : k ≤ 18446744073709551615) :
    Calls Try.prog 20 #[.pointer (some ⟨X, 0, none⟩), .int .u64 k, .int .i64 v] w fun e w' => ∃ c T', e = .returned (.int .i64 c) ∧ Lx w' X P n room T' ∧ Ix.Tidy n (hm n) T' ∧ Kp (fun b => b = X ∨ b = P) w w' ∧ PutR n room T k v c T' := by
  have hk := hm_lt (n := n) (by have := h.pos; omega) k
  obtain ⟨e, he, hf⟩ := h.free
  obtain ⟨i, hF⟩ := Ix.fd_go (k := k) hk he hf
  cases hi : T i with
  | some x =>
    obtain ⟨k', u⟩ := x
    have hx : T i = some (k, u) := by
      rcases hF.here with h2 | ⟨u', h2⟩
      · rw [h2] at hi; cases hi
      · rw [h2] at hi; cases hi; exact h2
    refine (put_there h v hF hx).mono ?_
    rintro e w' ⟨rfl, hK⟩
    exact ⟨81, T, rfl, h.kp hK (fun h => h) (fun h => h), ht, hK.mono (fun _ _ h => h.elim), .inl ⟨rfl, rfl, u, i, hF.lt, hx⟩⟩
  | none =>
    have hno := (ht.fd_none hk hF).1 hi
    rcases Nat.lt_or_ge (Ix.cnt T n) room with hr | hr
    · refine (put_new h v h0 h1 hF hi hr).mono ?_
      rintro e w' ⟨rfl, hL, hK⟩
      exact ⟨0, _, rfl, hL, ht.put v hk hF hi, hK, .inr (.inr ⟨rfl, hno, hr, Ix.has_put hF.lt hi, Ix.cnt_put hF.lt hi⟩)⟩
    · have hr' : Ix.cnt T n = room := by have := h.le; omega
      refine (put_full h v hF hi hr').mono ?_
      rintro e w' ⟨rfl, hK⟩
      exact ⟨80, T, rfl, h.kp hK (fun h => h) (fun h => h), ht, hK.mono (fun _ _ h => h.elim), .inr (.inl ⟨rfl, rfl, hno, hr'⟩)⟩
theorem drop_any {w : World} {X P n room : Nat} {T : Ix.Tab} (h : Lx w X P n room T) (ht : Ix.Tidy n (hm n) T) (k : Int) :
    Calls Try.prog 19 #[.pointer (some ⟨X, 0, none⟩), .int .u64 k] w fun e w' => ∃ v b T', e = .returned (.tuple #[.int .i64 v, .bool b]) ∧ Lx w' X P n room T' ∧ Ix.Tidy n (hm n) T' ∧ Kp (fun b => b = X ∨ b = P) w w' ∧ DropR n T k v b T' := by
  have hk := hm_lt (n := n) (by have := h.pos; omega) k
  obtain ⟨e, he, hf⟩ := h.free
  obtain ⟨i, hF⟩ := Ix.fd_go (k := k) hk he hf
  cases hi : T i with
  | some x =>
    obtain ⟨k', u⟩ := x
    have hx : T i = some (k, u) := by
      rcases hF.here with h2 | ⟨u', h2⟩
      · rw [h2] at hi; cases hi
      · rw [h2] at hi; cases hi; exact h2
    refine (drop_there h ht hF.lt hx).mono ?_
    rintro e w' ⟨rfl, hL, ht', hh, hc, hK⟩
    exact ⟨u, true, _, rfl, hL, ht', hK, .inr ⟨rfl, ⟨i, hF.lt, hx⟩, hh, hc⟩⟩
  | none =>
    have hno := (ht.fd_none hk hF).1 hi
    refine (drop_none h hF hi).mono ?_
    rintro e w' ⟨rfl, hK⟩
    exact ⟨0, false, T, rfl, h.kp hK (fun h => h) (fun h => h), ht, hK.mono (fun _ _ h => h.elim), .inl ⟨rfl, rfl, rfl, hno⟩⟩
theorem get_map {w : World} {X P n room : Nat} {T : Ix.Tab} (h : Lx w X P n room T) (ht : Ix.Tidy n (hm n) T) (k : Int) :
    Calls Try.prog 21 #[.pointer (some ⟨X, 0, none⟩), .int .u64 k] w fun e w' => ∃ v b, e = .returned (.tuple #[.int .i64 v, .bool b]) ∧ Kp (fun _ => False) w w' ∧ GetR n T k v b := by
  have hk := hm_lt (n := n) (by have := h.pos; omega) k
  refine (get_any h k).mono ?_
  rintro e w' ⟨i, rfl, hF, hK⟩
  refine ⟨_, _, rfl, hK, ?_⟩
  cases hi : T i with
  | none => exact .inl ⟨rfl, rfl, (ht.fd_none hk hF).1 hi⟩
  | some x =>
    obtain ⟨k', u⟩ := x
    rcases hF.here with h2 | ⟨u', h2⟩
    · rw [h2] at hi; cases hi
    · rw [h2] at hi; cases hi; exact .inr ⟨rfl, i, hF.lt, h2⟩
end Go.Proofs.Ythidnipmkffilaa
