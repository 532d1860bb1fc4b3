/-
  BrA
-/
import Derived.Test.YtlhbgaiiehljpaaGreatGk
namespace Go.Proofs.YtlhbgaiiehljpaaGreat.Ss
open Go.RowKit Go.Deep BigM
set_option linter.unusedVariables false
set_option linter.unusedSimpArgs false
set_option maxHeartbeats 8000000
set_option maxRecDepth 100000
attribute [local go_sem ↓] Go.wp_at_zero Go.wp_at_succ
/-- a fund: whose, and how much. -/
structure Fd where
  mb : Int
  ct : Int
/-- funds that may be read. -/
def Fz (w : World) (q : Option Addr) (l : List Fd) : Prop := ∀ i (h : i < l.length), ∃ b off, q = some ⟨b, off, none⟩ ∧ b < w.heap.size ∧ w.cell? ⟨b, off + i * 2, none⟩ = some (.int .u32 l[i].mb) ∧ w.cell? ⟨b, off + i * 2 + 1, none⟩ = some (.int .u64 l[i].ct)
theorem Fz.on {w w' : World} {q : Option Addr} {l : List Fd} (h : Fz w q l) (hb : Below w.heap.size w w') : Fz w' q l := fun i hi => by
  obtain ⟨b, off, e, hl, h1, h2⟩ := h i hi
  exact ⟨b, off, e, Nat.lt_of_lt_of_le hl hb.size, (hb.cell (p := ⟨b, off + i * 2, none⟩) hl).trans h1, (hb.cell (p := ⟨b, off + i * 2 + 1, none⟩) hl).trans h2⟩
def cts (l : List Fd) : List Int := l.map Fd.ct
theorem cts_len (l : List Fd) : (cts l).length = l.length := by simp [cts]
theorem cts_gd {l : List Fd} {i : Nat} (h : i < l.length) : gd (cts l) i = l[i].ct := by
  rw [gd_get (by rw [cts_len]; exact h)]
  simp [cts]
def mn (a b : Int) : Int := if a < b then a else b
theorem mn_min (a b : Int) : min a b = mn a b := by unfold mn; split <;> omega
theorem mn_bd {a b : Int} (ha : 0 ≤ a) (hb : 0 ≤ b) : 0 ≤ mn a b ∧ mn a b ≤ a ∧ mn a b ≤ b := by unfold mn; split <;> omega
/-- how what is left is shared. -/
def Shd (x : Int) (ws l : List Int) : Prop := (0 < sumL ws ∧ ShR x ws 0 l) ∨ (sumL ws = 0 ∧ l = List.replicate ws.length 0)
theorem Shd.uniq {x : Int} {ws l l' : List Int} (h : Shd x ws l) (h' : Shd x ws l') : l = l' := by
  rcases h with ⟨a1, a2⟩ | ⟨a1, a2⟩ <;> rcases h' with ⟨b1, b2⟩ | ⟨b1, b2⟩
  · exact (a2.uniq b2).2
  · omega
  · omega
  · rw [a2, b2]
theorem ShR.len0 {x : Int} {ws l : List Int} (h : ShR x ws 0 l) : l.length = ws.length := by
  rcases h with ⟨a1, a2, a3, a4, pl, k, _, a5, _⟩ | ⟨a1, a2, a3, rfl⟩ | ⟨a1, a2, rfl⟩
  · rw [a5.len, List.length_map]
  · exfalso; split at a3 <;> omega
  · omega
theorem Shd.len {x : Int} {ws l : List Int} (h : Shd x ws l) : l.length = ws.length := by
  rcases h with ⟨a1, a2⟩ | ⟨a1, rfl⟩
  · exact a2.len0
  · simp
theorem shared_any (A : Int) (ws : List Int) (n g : Nat) (w : World) (hA : Word A) (hws : ∀ x ∈ ws, Word x) (hl : ws.length = n) (hn : n ≤ 17592186044416) (hr : Uw w g n ws) (hS : sumL ws < 18446744073709551616) :
    Calls Tryz.prog 30 #[.int .u64 A, .slice (some ⟨g, 0, none⟩) n n] w fun e w' => ∃ g' l, e = .returned (.slice (some ⟨g', 0, none⟩) n n) ∧ w.heap.size ≤ g' ∧ Uw w' g' n l ∧ Shd A ws l ∧ Below w.heap.size w w' := by
  have C := hid (share_all A ws n (some ⟨g, 0, none⟩) n w hA hws hl (by omega) (fun _ => ⟨g, 0, rfl, hr.rw⟩))
  have HG := hid (sumL_nonneg ws (fun x hx => (hws x hx).1))
  have HL := hid hl
  have HS := hid hS
  have hmk := make_w n hn
  clear hA hws hl hr hS
  go_enter Tryz.func30, Tryz.ntmps30
  go_upto_region 2 with (go_at_call 61; with_reducible refine C.out.mono ?_; rintro e w1 ⟨p, er, l, rfl, h1, h2, h3⟩; have H1 := hid h1; have H2 := hid h2; have H3 := hid h3; clear h1 h2 h3 C)
  by_cases h0 : er = 0
  · subst h0
    have HL2 := hid (H2.out.len0)
    have HP := hid (show 0 < sumL ws from by
      rcases H2.out with ⟨a1, a2, _⟩ | ⟨a1, a2, a3, _⟩ | ⟨_, a2, _⟩
      · exact a2
      · exfalso; split at a3 <;> omega
      · omega)
    obtain ⟨g', rfl, hg', ug⟩ : ∃ g', p = some ⟨g', 0, none⟩ ∧ w.heap.size ≤ g' ∧ Uw w1 g' l.length l := by
      rcases H1.out with ⟨_, rfl⟩ | ⟨g', e, z, u⟩
      · exfalso
        have h1 := HL2.out
        have h2 := HP.out
        have h3 : ws = [] := List.length_eq_zero_iff.1 (by simpa using h1.symm)
        subst h3
        simp [sumL] at h2
      · exact ⟨g', e, z, u⟩
    have e1 : l.length = n := by rw [HL2.out, HL.out]
    rw [e1] at ug ⊢
    have UG := hid ug
    have HG' := hid hg'
    clear ug hg' e1 H1
    go_wp2
    go_ret
    exact ⟨g', l, rfl, HG'.out, UG.out, .inl ⟨HP.out, H2.out⟩, H3.out⟩
  · have hz : sumL ws = 0 := by
      have := HG.out
      have := HS.out
      rcases H2.out with ⟨a1, a2, a3, a4, _⟩ | ⟨a1, a2, a3, _⟩ | ⟨a1, _⟩
      · exact absurd a4 h0
      · omega
      · have h3 : ws = [] := List.length_eq_zero_iff.1 a1
        subst h3
        rfl
    have HZ := hid hz
    have e0 : (er != 0) = true := by simp [h0]
    have m1 := hmk w1
    obtain ⟨W2, hW2⟩ : ∃ W, w1.alloc (.cells (madeCells #[.int .u64 0] n) 31) = W := ⟨_, rfl⟩
    have UW := hid (show Uw W2 w1.heap.size n (List.replicate n 0) from by rw [← hW2]; exact uw_made w1 n)
    have BW := hid (show Below w.heap.size w W2 from by rw [← hW2]; exact H3.out.alloc H3.out.size _)
    rw [hW2] at m1
    clear hz h0 hmk hW2
    go_wp2
    go_ret
    exact ⟨w1.heap.size, _, rfl, H3.out.size, UW.out, .inr ⟨HZ.out, by rw [HL.out]⟩, BW.out⟩
end Go.Proofs.YtlhbgaiiehljpaaGreat.Ss
namespace Go.Proofs.YtlhbgaiiehljpaaGreat.Ss
open Go.RowKit Go.Deep BigM
set_option linter.unusedVariables false
set_option linter.unusedSimpArgs false
set_option maxHeartbeats 8000000
set_option maxRecDepth 100000
theorem ball (w : World) (o : Obj) : Below w.heap.size w (w.alloc o) := (Below.refl _ _).alloc (Nat.le_refl _) _
theorem btr {a b c : World} (h : Below a.heap.size a b) (k : Below b.heap.size b c) : Below a.heap.size a c := h.trans (k.mono h.size)
theorem row_on {w w' : World} {g : Nat} {o : Obj} (h : w.heap[g]? = some o) (hb : Below w.heap.size w w') : w'.heap[g]? = some o := by
  rw [hb.block g (row_lt h)]; exact h
theorem setRow_kp (w : World) (g : Nat) (cs : Array Value) : Kp (fun b => b = g) w (w.setRow g cs) :=
  ⟨rfl, rfl, rfl, by simp [World.setRow], fun b _ hb => setRow_other w g b cs (fun e => hb e)⟩
theorem setRow_below {w W : World} {g : Nat} {cs : Array Value} (h : Below w.heap.size w W) (hg : w.heap.size ≤ g) : Below w.heap.size w (W.setRow g cs) := h.trans ((setRow_kp W g cs).below h.size (fun b hb e => by omega))
theorem set_below {w W : World} {g i : Nat} {v : Value} (h : Below w.heap.size w W) (hg : w.heap.size ≤ g) : Below w.heap.size w (W.setCell ⟨g, i, none⟩ v) := h.trans ((Kp.set W g i v).below h.size (fun b hb e => by omega))
theorem res_ct {P : Program} {fn : Func} {p q : Tmp} {ty : TypeId} (h : fn.results = #[.cell p ty, .tmp q]) (tmps : Array Value) (w : World) (g : Nat) (t : TypeId) (cs : Array Value) (fr : Nat × Nat) (d : TypeDesc) (v : Value)
    (hp : tmps.getD p undef = .pointer (some ⟨g, 0, none⟩)) (hq : tmps.getD q undef = v) (hg : w.heap[g]? = some (.cells cs t fr))
    (hu : P.underlying ty = some d) (hd : (match d with | .struct _ | .array _ _ => true | _ => false) = true) (hi : (P.info? ty).map (·.size) = some cs.size) :
    (results fn tmps).run P w = .ok (.tuple #[.agg cs, v]) w := by
  have hp' : tmps[p]?.getD undef = .pointer (some ⟨g, 0, none⟩) := by simpa using hp
  have hq' : tmps[q]?.getD undef = v := by simpa using hq
  simp [results, h, hp', hq', asAddr, run_loadVar_row w g t ty cs fr d hg hu hd hi]
theorem info26 : (Tryz.prog.info? 48).map (·.size) = some 4 := by kernel_rfl
theorem cv_info (o h lf : Int) (v : Value) : (Tryz.prog.info? 48).map (·.size) = some (#[.int .u64 o, .int .u64 h, v, .int .u64 lf] : Array Value).size := info26
theorem cv_size (o h lf o' h' lf' : Int) (v v' : Value) : (#[.int .u64 o, .int .u64 h, v, .int .u64 lf] : Array Value).size = (#[.int .u64 o', .int .u64 h', v', .int .u64 lf'] : Array Value).size := rfl
theorem cv_all (o h lf : Int) (p : Option Addr) (n c : Nat) : (#[.int .u64 o, .int .u64 h, .slice p n c, .int .u64 lf] : Array Value).all (·.oneCell') = true := by simp [Value.oneCell']
theorem reg_cut {P : Program} {id : Nat} {ops : Array Oper} {b : Bool} {Q : Exit → Act → World → Prop} {a : Act} {w : World} {X : Type} (F : Act → X → Act) (T : X → World → Prop)
    (h1 : (Code.region id ops b).wp P (fun e a' w' => match e with | .normal => ∃ x, a' = F a x ∧ T x w' | _ => False) a w)
    (h2 : ∀ x w', T x w' → Q .normal (F a x) w') : (Code.region id ops b).wp P Q a w :=
  wp_mono h1 (fun e a' w' h => by
    cases e with
    | normal => obtain ⟨x, rfl, ht⟩ := h; exact h2 x w' ht
    | _ => exact h.elim)
/-- a cover in memory. -/
def cvr (o h : Int) (v : Value) (lf : Int) : Array Value := #[.int .u64 o, .int .u64 h, v, .int .u64 lf]
theorem cvr_set2 (o h lf : Int) (v u : Value) : (cvr o h v lf).setIfInBounds 2 u = cvr o h u lf := by simp [cvr]
theorem cvr_set3 (o h lf x : Int) (v : Value) : (cvr o h v lf).setIfInBounds 3 (.int .u64 x) = cvr o h v x := by simp [cvr]
theorem row_set {w : World} {g i : Nat} {t : TypeId} {cs ds : Array Value} {v : Value} (h : w.heap[g]? = some (.cells cs t (0, 0))) (e : cs.setIfInBounds i v = ds) : (w.setCell ⟨g, i, none⟩ v).heap[g]? = some (.cells ds t (0, 0)) := by
  rw [← e]
  exact heap_setCell_same w g i cs t v h
end Go.Proofs.YtlhbgaiiehljpaaGreat.Ss
