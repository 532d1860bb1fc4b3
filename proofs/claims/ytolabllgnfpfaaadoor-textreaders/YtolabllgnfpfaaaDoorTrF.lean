/-
  What the law's steps leave alone.
-/
import Derived.Test.YtolabllgnfpfaaaDoorTrE
import Derived.Test.YtolabllgnfpfaaaDoorTzG
import Derived.Test.YtolabllgnfpfaaaDoorTyO
namespace Go.Proofs.YtolabllgnfpfaaaDoor
open Go.RowKit Go.Deep Go.Lib Go.Shelf Go.Sort
set_option linter.unusedVariables false
set_option linter.unusedSimpArgs false

theorem dec_small (l : List UInt8) : (decR l).2.1.length ≤ 64 ∧ ∀ x ∈ (decR l).2.1, x.2.length ≤ 2048 := by
  obtain ⟨kd, tg, pl, why, hd⟩ : ∃ a b c d, decR l = (a, b, c, d) := ⟨_, _, _, _, rfl⟩
  by_cases hw : why = 0
  · subst hw
    have h := line_small (decR_back hd).2.2.1
    rw [hd]
    exact h.2
  · have ht : (decR l).2.1 = [] := by
      unfold decR at hd ⊢
      split
      · rfl
      · rename_i h1
        rw [if_neg h1] at hd
        split
        · rfl
        · rename_i h2
          rw [if_neg h2] at hd
          simp only [Prod.mk.injEq] at hd
          exact absurd hd.2.2.2.symm hw
    rw [ht]
    exact ⟨by simp, fun x hx => by cases hx⟩
theorem news_five (w : World) : ∀ (j : Nat) (u : Value), ([.int .u8 5] : List Value)[j]? = some u → (w.alloc (.cells #[.int .u8 5] 5)).cell? ((⟨w.heap.size, 0, none⟩ : Addr).add j) = some u := by
  intro j u hj
  match j, hj with
  | 0, hj => simp at hj; subst hj; simp [Addr.add]
  | (j + 1), hj => simp at hj
theorem one_five : ∀ u ∈ ([.int .u8 5] : List Value), u.oneCell' = true := by
  intro u hu; simp at hu; subst hu; rfl

set_option maxHeartbeats 2000000 in
set_option maxRecDepth 100000 in
/-- the law's full. -/
theorem full5_any (v : Value) (n B : Nat) (xs : List Value) (w : World) (hn : n ≤ 140737488351232) (hB : B ≤ w.heap.size) (hown : w.ownsRow B 5 1 v n xs) :
    Calls Tryd.prog 10 #[v, .int .u8 5] w fun e w' => e = .returned (.tuple #[]) ∧ w.grownBy w' v.ownBlock := by
  obtain ⟨q, cap, hv⟩ : ∃ q cap, v = .slice q n cap := by
    rcases hown.2 with ⟨h, h0⟩ | ⟨g, c, cur, h, _⟩
    · exact ⟨none, 0, by rw [h, h0]⟩
    · exact ⟨_, c, h⟩
  subst hv
  have HO := hid hown
  obtain ⟨i0, hi, hz0, hz1, hz2⟩ := info_parts info5all
  have HI := hid hi
  have HZ0 := hid hz0
  have HZ1 := hid hz1
  have HZ2 := hid hz2
  clear hown hi hz0 hz1 hz2
  go_enter Tryd.func10, Tryd.ntmps10
  go_wp2_with fail
  go_loopw [4] (fun iv wr => ∃ k : Nat, k ≤ n ∧ iv = .int .i64 k ∧ Hid (∃ xs, wr.ownsRow B 5 1 (.slice q n cap) n xs) ∧ Hid (w.grownBy wr (Value.slice q n cap).ownBlock)) (fun iv _ => n - (RowKit.intOf iv).toNat)
  case atStart => exact ⟨0, Nat.zero_le _, rfl, hid ⟨xs, HO.out⟩, hid (grown_refl _ _)⟩
  case round =>
    obtain ⟨k, hk, rfl, HX, HG⟩ := hrel
    by_cases hlt : k < n
    · obtain ⟨ys, hy⟩ := HX.out
      obtain ⟨g, c, e, hBg, hgl⟩ := hy.form (by omega)
      obtain ⟨rfl, rfl⟩ : q = some ⟨g, 0, none⟩ ∧ cap = c := by simpa using e
      have hlen := hy.1
      have hcell := hy.cellAt k (by omega)
      rw [List.getElem?_eq_getElem (by omega)] at hcell
      have hfr := hy.frozenAt k
      obtain ⟨s1, s2⟩ := hy.stored k (.int .u8 5)
      have S1 := hid s1
      have S2 := hid s2
      have i0 : (0 : Int) ≤ (k : Int) := by omega
      have i1 : (k : Int) < (n : Int) := by omega
      obtain ⟨u, hu⟩ : ∃ u, ys[k]'(by omega) = u := ⟨_, rfl⟩
      rw [hu] at hcell
      clear hy hlen s1 s2 hu e
      go_wp2
      go_roundw
      case rel => exact ⟨k + 1, by omega, by go_num, hid ⟨_, S1.out⟩, hid (grown_step HG.out S2.out (Or.inl rfl))⟩
      case measure => simp [RowKit.intOf]; omega
    · go_wp2_with fail
      go_loopw [0, 5] (fun bv iv wr => ∃ j : Nat, j ≤ 90 ∧ iv = .int .i64 j ∧ Hid (∃ xs, wr.ownsRow B 5 1 bv (n + j) xs) ∧ Hid (w.grownBy wr (Value.slice q n cap).ownBlock) ∧ Hid (At w (Value.slice q n cap).ownBlock bv.ownBlock)) (fun _ iv _ => 90 - (RowKit.intOf iv).toNat)
      case atStart => exact ⟨0, by omega, rfl, HX, HG, hid (Or.inl rfl)⟩
      case round =>
        obtain ⟨j, hj, rfl, HX2, HG2, HA2⟩ := hrel
        by_cases hjl : j < 90
        · obtain ⟨ys, hy⟩ := HX2.out
          have HY := hid (own_alloc hy (.cells #[.int .u8 5] 5))
          have j0 : (0 : Int) ≤ (j : Int) := by omega
          have j1 : (j : Int) < 90 := by omega
          have HBw := hid (Nat.le_trans hB HG2.out.size)
          clear hy
          go_wp2_with (at_builtin; refine wpList_append_lies _ (by rfl) (.tmp 20) (.tmp 22) 26 (by rfl) B 5 i0 (.int .u8 0) 1 1 Tryd.underlying26 HI.out HZ0.out HZ1.out HZ2.out rfl (by decide) _ (n + j) ys (by rfl) HY.out ⟨wr.heap.size, 0, none⟩ 1 1 [.int .u8 5] (by rfl) rfl (news_five wr) one_five (by decide) (by unfold maxLen; omega) (by omega) (by have := HBw.out; simp; omega) (wr.heap.size + 1) (by simp) ?_; intro g c w1 hown1 hgrow hat hglt; have O1 := hid hown1; have G1 := hid hgrow; have A1 := hid hat; clear hown1 hgrow hat hglt)
          go_roundw
          case rel =>
            refine ⟨j + 1, by omega, by go_num, hid ⟨_, by rw [← Nat.add_assoc]; exact O1.out⟩, hid (grown_step (grown_step HG2.out (World.grownBy_alloc _ _ _) (Or.inl rfl)) G1.out HA2.out), hid ?_⟩
            rcases A1.out with h | h
            · rw [show (Value.slice (some ⟨g, 0, none⟩) (n + j + 1) c).ownBlock = some g from rfl, ← h]; exact HA2.out
            · exact Or.inr ⟨g, rfl, by have := HG2.out.size; omega⟩
          case measure => simp [RowKit.intOf]; omega
        · go_wp2
          go_end0
          exact ⟨rfl, HG2.out⟩
theorem nx_small (l : List UInt8) : (nxR l).2.2.1.length ≤ 64 := by
  unfold nxR
  split
  · simp
  · split
    · simp
    · exact (dec_small l).1
theorem nx_len (l : List UInt8) : (nxR l).1.length ≤ l.length := by
  unfold nxR
  split
  · exact Nat.le_refl _
  · split
    · simp
    · simp
/-- blocks that stay. -/
theorem blk_cell {w w' : World} {b : Nat} (h : w'.heap[b]? = w.heap[b]?) (o : Nat) {v : Value} (hc : w.cell? ⟨b, o, none⟩ = some v) : w'.cell? ⟨b, o, none⟩ = some v := by
  unfold World.cell? at hc ⊢
  simp only [h]
  exact hc
theorem sb_same {w w' : World} {q : Option Addr} {l : List UInt8} (h : Sb w q l) (hs : ∀ a, q = some a → w'.heap[a.block]? = w.heap[a.block]?) : Sb w' q l := by
  intro i hi
  obtain ⟨b, o, e, hc⟩ := h i hi
  exact ⟨b, o, e, blk_cell (hs _ e) _ hc⟩
theorem RdG.same {w w' : World} {base R : Nat} {l : List UInt8} {hv : Value} (h : RdG base w R l hv) (hR : w'.heap[R]? = w.heap[R]?) (hg : ∀ g, hv.ownBlock = some g → w'.heap[g]? = w.heap[g]?) : RdG base w' R l hv := by
  obtain ⟨h0, ho, h1, h2⟩ := h
  refine ⟨h0, ho, hR.trans h1, ?_⟩
  rcases h2 with h2 | ⟨g, o, cap, cur, e, hbg, hgg, r1, r2, r3, hB⟩
  · exact Or.inl h2
  · have hs := hg g (by rw [e]; rfl)
    exact Or.inr ⟨g, o, cap, cur, e, hbg, hs.trans hgg, r1, r2, r3, fun i hi => blk_cell hs _ (hB i hi)⟩
theorem RdG.lt {w : World} {base R : Nat} {l : List UInt8} {hv : Value} (h : RdG base w R l hv) : R < w.heap.size ∧ ∀ g, hv.ownBlock = some g → g < w.heap.size := by
  refine ⟨(Array.getElem?_eq_some_iff.1 h.2.2.1).1, fun g hg => ?_⟩
  rcases h.2.2.2 with ⟨_, e⟩ | ⟨g', o, cap, cur, e, hbg, hgg, _⟩
  · rw [e] at hg; cases hg
  · rw [e] at hg
    simp only [Value.ownBlock, Option.some.injEq] at hg
    subst hg
    exact (Array.getElem?_eq_some_iff.1 hgg).1
/-- the law's state: the reader, the document's bytes. -/
structure LawR (w0 : World) (R : Nat) (l : List UInt8) (hv : Value) (q : Option Addr) (c : Nat) (w : World) : Prop where
  rd : RdG w0.heap.size w R l hv
  sg : Sg w q c l
  lc : l.length ≤ c
  cm : c < 9223372036854775808
  len : l.length ≤ 65536
  own : ∀ a, q = some a → a.block < w.heap.size ∧ a.block ≠ R ∧ hv.ownBlock ≠ some a.block
  bel : Below w0.heap.size w0 w
theorem LawR.on {w0 w w' : World} {R : Nat} {l : List UInt8} {hv : Value} {q : Option Addr} {c : Nat} (h : LawR w0 R l hv q c w) (hb : Below w.heap.size w w') : LawR w0 R l hv q c w' :=
  ⟨h.rd.to hb, h.sg.on hb, h.lc, h.cm, h.len, fun a e => ⟨Nat.lt_of_lt_of_le (h.own a e).1 hb.size, (h.own a e).2⟩, h.bel.trans (hb.mono h.bel.size)⟩
/-- a call of Next, of the reader and of the document. -/
theorem LawR.next {w0 w w1 w2 : World} {R : Nat} {l l' : List UInt8} {hv hv' : Value} {q q' : Option Addr} {c c' : Nat} (h : LawR w0 R l hv q c w) (hl : l'.length ≤ l.length)
    (r1 : RdG w0.heap.size w1 R l' hv') (ow : hv'.ownBlock = hv.ownBlock ∨ hv'.ownBlock = none) (b1 : Below w0.heap.size w w1)
    (b2 : Below w1.heap.size w1 w2) (sg : Sg w2 q' c' l') (lc : l'.length ≤ c') (cm : c' < 9223372036854775808) (pl : ∀ a, q' = some a → ∃ a0, q = some a0 ∧ a.block = a0.block) (hs1 : w.heap.size ≤ w1.heap.size) : LawR w0 R l' hv' q' c' w2 := by
  refine ⟨r1.to b2, sg, lc, cm, by have := h.len; omega, fun a e => ?_, (h.bel.trans b1).trans (b2.mono (Nat.le_trans h.bel.size hs1))⟩
  obtain ⟨a0, e0, eb⟩ := pl a e
  obtain ⟨o1, o2, o3⟩ := h.own a0 e0
  rw [eb]
  refine ⟨Nat.lt_of_lt_of_le o1 (Nat.le_trans hs1 b2.size), o2, ?_⟩
  rcases ow with ow | ow
  · rw [ow]; exact o3
  · rw [ow]; simp
end Go.Proofs.YtolabllgnfpfaaaDoor
