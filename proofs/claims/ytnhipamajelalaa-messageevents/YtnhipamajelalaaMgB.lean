/-
  Structs in memory; input, event.
-/
import Derived.Test.YtnhipamajelalaaMgA
import Derived.Laws.CopyOwn
namespace Go.Proofs.Ytnhipamajelalaa
open Go.RowKit Go.Maps Go.Deep Go.Lib
set_option linter.unusedVariables false
set_option linter.unusedSimpArgs false

theorem Fm.alloc {w : World} {b n : Nat} {f : Int → Int} (h : Fm w b n f) (o : Obj) : Fm (w.alloc o) b n f := h.on (ball w o)
theorem wpList_fm_look (w : World) {ops : Array Oper} {rest : List Oper} {o : Oper} {a : Act} {Q : Exit → Act → World → Prop}
    (hg : o.guard = none) (m x : Operand) (hop : o.op = Op.lookup 44 m x false) (b n : Nat) (f : Int → Int) (t : Int)
    (hm : a.eval m = .map (some b)) (hx : a.eval x = .int .i64 t) (h : Fm w b n f) (ht : (Lit.int .i64 t).wf = true)
    (hK : wpList Try.prog ops Q rest (a.put o.dst (.int .u64 (f t))) w) : wpList Try.prog ops Q (o :: rest) a w := by
  refine wpList_plain hg fun K' hK' => ?_
  have hrun := h.look t ht
  unfold Oper.wp
  simp [execOp, hop, hm, hx, hrun, Result.andThen]
  exact hK' _ _ hK
/-- a whole row is written, and nothing else. -/
structure St (w : World) (g : Nat) (t : TypeId) (cs : Array Value) (w' : World) : Prop where
  row : w'.heap[g]? = some (.cells cs t (0, 0))
  oth : ∀ k, k ≠ g → w'.heap[k]? = w.heap[k]?
  siz : w'.heap.size = w.heap.size
  bel : ∀ B W0, Below B W0 w → B ≤ g → Below B W0 w'
theorem wpList_st {ops : Array Oper} {rest : List Oper} {o : Oper} {a : Act} {w : World} {Q : Exit → Act → World → Prop} (hgd : o.guard = none) (ty : TypeId) (x y : Operand) (ho : o.op = .store ty x y)
    (g : Nat) (cells : Array Value) (hx : a.eval x = .pointer (some ⟨g, 0, none⟩)) (hy : a.eval y = .agg cells)
    (t : TypeId) (old : Array Value) (hg : w.heap[g]? = some (.cells old t (0, 0))) (hi : (Try.prog.info? ty).map (·.size) = some cells.size)
    (hold : old.size = cells.size) (h1 : cells.all (·.oneCell') = true)
    (h : ∀ w', St w g t cells w' → wpList Try.prog ops Q rest (a.put o.dst undef) w') : wpList Try.prog ops Q (o :: rest) a w :=
  wpList_store_row hgd ty x y ho g cells hx hy t old hg hi hold h1 (h _ ⟨setRow_heap _ _ _ _ t (0, 0) hg, fun k hk => setRow_other _ _ _ _ hk, by simp, fun B W0 hb hB => below_setRow hb hB _⟩)
theorem St.cell {w w' : World} {g : Nat} {t : TypeId} {cs : Array Value} (h : St w g t cs w') {b j : Nat} {v : Value} (hb : b ≠ g) (hc : w.cell? ⟨b, j, none⟩ = some v) : w'.cell? ⟨b, j, none⟩ = some v := by
  unfold World.cell? at hc ⊢
  simp only [h.oth b hb]
  exact hc
theorem St.fm {w w' : World} {g : Nat} {t : TypeId} {cs : Array Value} (h : St w g t cs w') {b n : Nat} {f : Int → Int} (hb : b ≠ g) (hF : Fm w b n f) : Fm w' b n f := by
  obtain ⟨D, ⟨es, clock, h1, h2⟩, h3⟩ := hF
  exact ⟨D, ⟨es, clock, (h.oth b hb).trans h1, h2⟩, h3⟩
theorem St.sn {w w' : World} {g : Nat} {t : TypeId} {cs : Array Value} (h : St w g t cs w') {q : Option Addr} {l : List Int} (hq : ∀ b o, q = some ⟨b, o, none⟩ → b ≠ g) (hS : Sn w q l) : Sn w' q l := fun i hi => by
  obtain ⟨b, o, e, hc⟩ := hS i hi
  exact ⟨b, o, e, h.cell (hq b o e) hc⟩
theorem row_cell {w : World} {g : Nat} {t : TypeId} {cs : Array Value} (h : w.heap[g]? = some (.cells cs t (0, 0))) (j : Nat) : w.cell? ⟨g, j, none⟩ = cs[j]? := cell_of_row w g j cs t (0, 0) h
theorem row_on {w w' : World} {g : Nat} {o : Obj} (h : w.heap[g]? = some o) (hb : Below w.heap.size w w') : w'.heap[g]? = some o := by
  have hl : g < w.heap.size := by
    rcases Nat.lt_or_ge g w.heap.size with h' | h'
    · exact h'
    · simp [Array.getElem?_eq_none h'] at h
  rw [hb.block g hl]
  exact h
theorem info27 : (Try.prog.info? 27).map (·.size) = some 11 := by kernel_rfl
theorem info39 : (Try.prog.info? 39).map (·.size) = some 13 := by kernel_rfl
theorem info30 : (Try.prog.info? 30).map (·.size) = some 8 := by kernel_rfl
theorem info25 : (Try.prog.info? 25).map (·.size) = some 9 := by kernel_rfl
theorem info46 : (Try.prog.info? 46).map (·.size) = some 2 := by kernel_rfl

theorem alloc_size (w : World) (o : Obj) : (w.alloc o).heap.size = w.heap.size + 1 := by simp
theorem heap2 (w : World) (o1 o2 : Obj) : ((w.alloc o1).alloc o2).heap[w.heap.size + 1]? = some o2 := by rw [← alloc_size w o1]; exact heap_alloc_new _ _
def u32 (x : Int) : Int := x % 4294967296
def s64 (x : Int) : Int := wrap64 x
/-- an input, as cells. -/
def iV (k c i t m s y p q e g : Int) : Array Value := #[.int .i64 k, .int .i64 c, .int .u64 i, .int .u64 t, .int .u32 m, .int .i64 s, .int .i64 y, .int .i64 p, .int .u64 q, .int .u64 e, .int .i64 g]
/-- an event, as cells. -/
def eV (n k i o t m s y p q e r c : Int) : Array Value := #[.int .u64 n, .int .i64 k, .int .u64 i, .int .u64 o, .int .u64 t, .int .u32 m, .int .i64 s, .int .i64 y, .int .i64 p, .int .u64 q, .int .u64 e, .int .i64 r, .int .i64 c]
def inpV (k : Int) (f : Int → Int) : Array Value :=
  if k = 4 then iV 2 0 0 0 0 0 0 0 0 0 (s64 (f 9001)) else iV 1 k (f 11) (f 41) (u32 (f 1)) (s64 (f 54)) (s64 (f 40)) (s64 (f 44)) (f 38) (f 210) 0
def evtV (k : Int) (f : Int → Int) : Array Value := eV (f 34) (k - 64) (f 11) (f 37) (f 41) (u32 (f 1)) (s64 (f 54)) (s64 (f 40)) (s64 (f 44)) (f 38) (f 210) (s64 (f 378)) (s64 (f 103))

set_option maxHeartbeats 1000000 in
set_option maxRecDepth 100000 in
theorem input_any (k : Int) (b n : Nat) (f : Int → Int) (w : World) (hk0 : 0 ≤ k) (hk : k < 256) (hF : Fm w b n f) :
    Calls Try.prog 22 #[.agg #[.int .u8 k, .map (some b)]] w fun e w' => e = .returned (.agg (inpV k f)) ∧ Below w.heap.size w w' := by
  have HF := hid hF
  clear hF
  unfold inpV
  by_cases h4 : k = 4
  · subst h4
    rw [if_pos rfl]
    go_enter Try.func22, Try.ntmps22
    go_wp2_with (first | (at_lookup; refine wpList_fm_look _ rfl _ _ rfl b n f _ rfl rfl ((HF.out.alloc _).alloc _) (by decide) ?_))
    exact bodyPost_ret (results_cell_row (fn := Try.f22) Try.results22 _ _ (w.heap.size + 1) 27 (iV 2 0 0 0 0 0 0 0 0 0 (s64 (f 9001))) (0, 0) _ (by rfl) (heap2 _ _ _) Try.underlying27 rfl info27) rfl ⟨rfl, btr (ball _ _) (ball _ _)⟩
  · rw [if_neg h4]
    go_enter Try.func22, Try.ntmps22
    go_wp2_with (first | (at_lookup; refine wpList_fm_look _ rfl _ _ rfl b n f _ rfl rfl ((HF.out.alloc _).alloc _) (by decide) ?_))
    refine bodyPost_ret (results_cell_row (fn := Try.f22) Try.results22 _ _ (w.heap.size + 1) 27 (iV 1 k (f 11) (f 41) (u32 (f 1)) (s64 (f 54)) (s64 (f 40)) (s64 (f 44)) (f 38) (f 210) 0) (0, 0) _ (by rfl) (heap2 _ _ _) Try.underlying27 rfl info27) rfl ⟨?_, btr (ball _ _) (ball _ _)⟩
    rfl
set_option maxHeartbeats 1000000 in
set_option maxRecDepth 100000 in
theorem event_any (k : Int) (b n : Nat) (f : Int → Int) (w : World) (hk0 : 64 ≤ k) (hk : k < 256) (hF : Fm w b n f) :
    Calls Try.prog 30 #[.agg #[.int .u8 k, .map (some b)]] w fun e w' => e = .returned (.agg (evtV k f)) ∧ Below w.heap.size w w' := by
  have HF := hid hF
  clear hF
  have e1 : IntKind.u8.wrap (k - 64) = k - 64 := by rw [IntKind.wrap_u8]; omega
  go_enter Try.func30, Try.ntmps30
  go_wp2_with (first | (at_lookup; refine wpList_fm_look _ rfl _ _ rfl b n f _ rfl rfl ((HF.out.alloc _).alloc _) (by decide) ?_))
  refine bodyPost_ret (results_cell_row (fn := Try.f30) Try.results30 _ _ (w.heap.size + 1) 39 (evtV k f) (0, 0) _ (by rfl) (heap2 _ _ _) Try.underlying39 rfl info39) rfl ⟨?_, btr (ball _ _) (ball _ _)⟩
  rfl
end Go.Proofs.Ytnhipamajelalaa
