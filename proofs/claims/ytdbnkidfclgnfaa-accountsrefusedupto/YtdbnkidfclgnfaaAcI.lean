/-
  A ledger in memory.
-/
import Derived.Test.YtdbnkidfclgnfaaAcH
namespace Go.Proofs.Ytdbnkidfclgnfaa.Ac
open Go.RowKit Go.Deep Go.Maps Go.Proofs.Ytdbnkidfclgnfaa.MonM
set_option linter.unusedVariables false
set_option linter.unusedSimpArgs false
set_option maxRecDepth 100000
/-- an entry. -/
structure En where
  fm : Int
  fk : Int
  tm : Int
  tk : Int
  am : Int
def enr (x : En) : List Value := [.int .u32 x.fm, .int .i64 x.fk, .int .u32 x.tm, .int .i64 x.tk, .int .u64 (hiW x.am), .int .u64 (loW x.am)]
def enc (l : List En) : List Value := l.flatMap enr
theorem enc_snoc (l : List En) (x : En) : enc (l ++ [x]) = enc l ++ enr x := by simp [enc]
theorem enc_len (l : List En) : (enc l).length = l.length * 6 := by
  induction l with
  | nil => rfl
  | cons x l ih => simp only [enc, List.flatMap_cons, List.length_append, List.length_cons] at ih ⊢; rw [ih]; simp [enr]; omega
theorem enr_one (x : En) : ∀ u ∈ enr x, u.oneCell' = true := by
  intro u hu
  simp only [enr, List.mem_cons, List.not_mem_nil, or_false] at hu
  rcases hu with rfl | rfl | rfl | rfl | rfl | rfl <;> rfl
theorem enc_one (l : List En) : ∀ u ∈ enc l, u.oneCell' = true := by
  intro u hu
  obtain ⟨x, _, hx⟩ := List.mem_flatMap.1 hu
  exact enr_one x u hx
def U32 (k : Int) : Prop := (Lit.int .u32 k).wf = true
theorem u32_mk {k : Int} (h0 : 0 ≤ k) (h1 : k < 4294967296) : U32 k := by simp [U32, Lit.wf, IntKind.min, IntKind.max, IntKind.signed, IntKind.bits]; omega
/-- what a ledger keeps. -/
structure Ls where
  ma : Int
  ta : Int
  bb : Int
  f : Int × Int → Option Int
  g : Int → Int → Po
  es : List En
def lrow (s : Ls) (B P : Option Nat) (p : Option Addr) (c : Nat) : Array Value := #[.int .u32 s.ma, .int .u32 s.ta, .int .u32 s.bb, .map B, .slice p s.es.length c, .map P]
/-- the balances lie. -/
def Bl (w : World) (O : Nat → Prop) (k : Nat) (f : Int × Int → Option Int) : Option Nat → Prop
  | none => ∀ x, f x = none
  | some b => O b ∧ Mp kvB w b k f
/-- the positions lie. -/
structure Ps (w : World) (O : Nat → Prop) (k : Nat) (g : Int → Int → Po) (B : Option Nat) (q : Nat) (h : Int → Option (Option Nat)) (r : Int → Int → Option Po) : Prop where
  own : O q
  mp : Mp kvM w q k h
  no : ∀ m, U32 m → h m = none → ∀ i, U32 i → g m i = po0
  yes : ∀ m o, U32 m → h m = some o → ∃ M, o = some M ∧ O M ∧ M ≠ q ∧ Mp kvP w M k (r m) ∧ ∀ i, U32 i → g m i = (r m i).getD po0
  inj : ∀ m m' M, U32 m → U32 m' → h m = some (some M) → h m' = some (some M) → m = m'
  nb : ∀ b, B = some b → b ≠ q ∧ ∀ m, U32 m → h m ≠ some (some b)
def Pl (w : World) (O : Nat → Prop) (k : Nat) (g : Int → Int → Po) (B : Option Nat) : Option Nat → Prop
  | none => ∀ m i, g m i = po0
  | some q => ∃ h r, Ps w O k g B q h r
structure Tf (s : Ls) : Prop where
  m0 : 0 ≤ s.ma
  mb : s.ma ≤ s.bb
  t0 : 0 ≤ s.ta
  tb : s.ta ≤ s.bb
  b0 : 0 < s.bb
  b1 : s.bb < 4294967296
/-- a ledger lies in block G; O: all that is its own. -/
structure Lgx (w : World) (G : Nat) (O : Nat → Prop) (k : Nat) (s : Ls) (B P : Option Nat) (p : Option Addr) (c : Nat) : Prop where
  row : w.heap[G]? = some (.cells (lrow s B P p c) 56 (0, 0))
  oG : O G
  oE : ∀ b, (Value.slice p s.es.length c).ownBlock = some b → O b
  own : w.ownsRow 0 80 6 (.slice p s.es.length c) s.es.length (enc s.es)
  bal : Bl w O k s.f B
  pos : Pl w O k s.g B P
  both : B = none ↔ P = none
  amt : ∀ x v, s.f x = some v → Amt v
  gok : ∀ m i, PoOk (s.g m i) ∧ absI (s.g m i).qt ≤ 4294967295
  lt : ∀ b, O b → b < w.heap.size
  len : s.es.length ≤ k
  tf : Tf s
def Lg (w : World) (G : Nat) (O : Nat → Prop) (k : Nat) (s : Ls) : Prop := ∃ B P p c, Lgx w G O k s B P p c
theorem Bl.same {w w' : World} {O : Nat → Prop} {k : Nat} {f : Int × Int → Option Int} {B : Option Nat} (h : Bl w O k f B) (hs : ∀ b, O b → w'.heap[b]? = w.heap[b]?) : Bl w' O k f B := by
  cases B with
  | none => exact h
  | some b => exact ⟨h.1, h.2.same (hs b h.1)⟩
theorem Bl.mono {w : World} {O O' : Nat → Prop} {k k' : Nat} {f : Int × Int → Option Int} {B : Option Nat} (h : Bl w O k f B) (hO : ∀ b, O b → O' b) (hk : k ≤ k') : Bl w O' k' f B := by
  cases B with
  | none => exact h
  | some b => exact ⟨hO b h.1, h.2.mono hk⟩
theorem Ps.same {w w' : World} {O : Nat → Prop} {k : Nat} {g : Int → Int → Po} {B : Option Nat} {q : Nat} {h : Int → Option (Option Nat)} {r : Int → Int → Option Po} (H : Ps w O k g B q h r) (hs : ∀ b, O b → w'.heap[b]? = w.heap[b]?) : Ps w' O k g B q h r :=
  ⟨H.own, H.mp.same (hs _ H.own), H.no, fun m o hm ho => by
    obtain ⟨M, e, a, b, c, d⟩ := H.yes m o hm ho
    exact ⟨M, e, a, b, c.same (hs _ a), d⟩, H.inj, H.nb⟩
theorem Ps.mono {w : World} {O O' : Nat → Prop} {k k' : Nat} {g : Int → Int → Po} {B : Option Nat} {q : Nat} {h : Int → Option (Option Nat)} {r : Int → Int → Option Po} (H : Ps w O k g B q h r) (hO : ∀ b, O b → O' b) (hk : k ≤ k') : Ps w O' k' g B q h r :=
  ⟨hO _ H.own, H.mp.mono hk, H.no, fun m o hm ho => by
    obtain ⟨M, e, a, b, c, d⟩ := H.yes m o hm ho
    exact ⟨M, e, hO _ a, b, c.mono hk, d⟩, H.inj, H.nb⟩
theorem Pl.same {w w' : World} {O : Nat → Prop} {k : Nat} {g : Int → Int → Po} {B P : Option Nat} (h : Pl w O k g B P) (hs : ∀ b, O b → w'.heap[b]? = w.heap[b]?) : Pl w' O k g B P := by
  cases P with
  | none => exact h
  | some q => obtain ⟨a, b, c⟩ := h; exact ⟨a, b, c.same hs⟩
theorem Pl.mono {w : World} {O O' : Nat → Prop} {k k' : Nat} {g : Int → Int → Po} {B P : Option Nat} (h : Pl w O k g B P) (hO : ∀ b, O b → O' b) (hk : k ≤ k') : Pl w O' k' g B P := by
  cases P with
  | none => exact h
  | some q => obtain ⟨a, b, c⟩ := h; exact ⟨a, b, c.mono hO hk⟩
theorem Lgx.same {w w' : World} {G : Nat} {O : Nat → Prop} {k : Nat} {s : Ls} {B P : Option Nat} {p : Option Addr} {c : Nat} (h : Lgx w G O k s B P p c) (hs : ∀ b, O b → w'.heap[b]? = w.heap[b]?) (hz : w.heap.size ≤ w'.heap.size) : Lgx w' G O k s B P p c :=
  ⟨(hs G h.oG).trans h.row, h.oG, h.oE, own_same h.own (fun g hg => hs g (h.oE g hg)), h.bal.same hs, h.pos.same hs, h.both, h.amt, h.gok, fun b hb => Nat.lt_of_lt_of_le (h.lt b hb) hz, h.len, h.tf⟩
theorem Lgx.on {w w' : World} {G : Nat} {O : Nat → Prop} {k : Nat} {s : Ls} {B P : Option Nat} {p : Option Addr} {c : Nat} (h : Lgx w G O k s B P p c) (hb : Below w.heap.size w w') : Lgx w' G O k s B P p c := h.same (fun b ho => hb.block b (h.lt b ho)) hb.size
theorem Lgx.kept {w w' : World} {F : Nat → Prop} {G : Nat} {O : Nat → Prop} {k : Nat} {s : Ls} {B P : Option Nat} {p : Option Addr} {c : Nat} (h : Lgx w G O k s B P p c) (hk : Kp F w w') (hF : ∀ b, O b → ¬ F b) : Lgx w' G O k s B P p c := h.same (fun b ho => hk.obj b (h.lt b ho) (hF b ho)) hk.size
theorem Lgx.mono {w : World} {G : Nat} {O O' : Nat → Prop} {k k' : Nat} {s : Ls} {B P : Option Nat} {p : Option Addr} {c : Nat} (h : Lgx w G O k s B P p c) (hO : ∀ b, O b → O' b) (hl : ∀ b, O' b → b < w.heap.size) (hk : k ≤ k') : Lgx w G O' k' s B P p c :=
  ⟨h.row, hO _ h.oG, fun b hb => hO _ (h.oE b hb), h.own, h.bal.mono hO hk, h.pos.mono hO hk, h.both, h.amt, h.gok, hl, Nat.le_trans h.len hk, h.tf⟩
theorem Lg.on {w w' : World} {G : Nat} {O : Nat → Prop} {k : Nat} {s : Ls} (h : Lg w G O k s) (hb : Below w.heap.size w w') : Lg w' G O k s := by
  obtain ⟨B, P, p, c, h⟩ := h
  exact ⟨B, P, p, c, h.on hb⟩
theorem Lg.kept {w w' : World} {F : Nat → Prop} {G : Nat} {O : Nat → Prop} {k : Nat} {s : Ls} (h : Lg w G O k s) (hk : Kp F w w') (hF : ∀ b, O b → ¬ F b) : Lg w' G O k s := by
  obtain ⟨B, P, p, c, h⟩ := h
  exact ⟨B, P, p, c, h.kept hk hF⟩
theorem Lg.lt {w : World} {G : Nat} {O : Nat → Prop} {k : Nat} {s : Ls} (h : Lg w G O k s) : ∀ b, O b → b < w.heap.size := by
  obtain ⟨B, P, p, c, h⟩ := h
  exact h.lt
/-- what is its own now was so, or is new. -/
def Ex (w : World) (O O' : Nat → Prop) : Prop := ∀ b, O' b → O b ∨ w.heap.size ≤ b
theorem Ex.refl (w : World) (O : Nat → Prop) : Ex w O O := fun b h => .inl h
theorem Ex.trans {w w' : World} {O O' O'' : Nat → Prop} (h : Ex w O O') (k : Ex w' O' O'') (hz : w.heap.size ≤ w'.heap.size) : Ex w O O'' := fun b hb => by
  rcases k b hb with h1 | h1
  · exact h b h1
  · exact .inr (Nat.le_trans hz h1)
theorem Kp.seq {w w1 w2 : World} {O O1 : Nat → Prop} (h : Kp O w w1) (k : Kp O1 w1 w2) (e : Ex w O O1) : Kp O w w2 := h.trans k (fun g hg h1 => by
  rcases e g h1 with h2 | h2
  · exact h2
  · omega)
end Go.Proofs.Ytdbnkidfclgnfaa.Ac
