/-
  Grow, Concat: two lists of orders become one.
-/
import Derived.Test.YtjpkodllemoniaaDoorWiD
import Derived.Test.YtjpkodllemoniaaDoorCpV
namespace Go.Proofs.YtjpkodllemoniaaDoor.Wi
open Go.RowKit Go.Deep
open Go.Proofs.YtjpkodllemoniaaDoor.Cp (btr ball row_on row_cell row_lt row_ne Or Osz ors ors_len ors_one ors_app osz_get infoX33all own_form)
set_option linter.unusedVariables false
set_option linter.unusedSimpArgs false
set_option maxHeartbeats 8000000
set_option maxRecDepth 100000
attribute [local go_sem ↓] Go.wp_at_zero Go.wp_at_succ
theorem wpList_app_or {w : World} {ops : Array Oper} {rest : List Oper} {oo : Oper} {a : Act} {Q : Exit → Act → World → Prop} (hgd : oo.guard = none) (s x : Operand)
    (ho : oo.op = .call { callee := .builtin .append, args := #[s, x], argTypes := #[24, 24] })
    (base : Nat) (v : Value) (m : Nat) (ys : List Or) (hs : a.eval s = v) (hown : w.ownsRow base 46 7 v m (ors ys))
    (q : Option Addr) (c : Nat) (os : List Or) (n : Nat) (hos : os.length = n) (hx : a.eval x = .slice q n c) (ho2 : Osz w q os) (hq : q = none → n = 0 ∧ c = 0)
    (hbytes : (m + n) * 56 ≤ 140737488355328) (hbase : base ≤ w.heap.size)
    (h : ∀ v' w', w'.ownsRow base 46 7 v' (m + n) (ors (ys ++ os)) → w.grownBy w' v.ownBlock → wpList Tryd.prog ops Q rest (a.put oo.dst v') w') : wpList Tryd.prog ops Q (oo :: rest) a w := by
  obtain ⟨i0, hi, hz0, hz1, hz2⟩ := info_parts infoX33all
  subst hos
  cases q with
  | none =>
    obtain ⟨h0, rfl⟩ := hq rfl
    have hnil : os = [] := List.length_eq_zero_iff.1 h0
    subst hnil
    exact wpList_append_own_none hgd s x 24 ho base 46 i0 7 Tryd.underlying24 hi v m (ors ys) hs hown hx (h v w (by simpa using hown) (Cp.grown_refl _ _))
  | some ad =>
    refine wpList_append_own _ hgd s x 24 ho base 46 i0 _ 7 56 Tryd.underlying24 hi hz0 hz1 hz2 rfl (by decide) v m (ors ys) hs hown ad os.length c (ors os) hx (ors_len _) (fun j u hj => by
      have hl : j < os.length * 7 := by rw [← ors_len]; exact (List.getElem?_eq_some_iff.1 hj).1
      obtain ⟨b, off, hq', _⟩ := ho2 0 (by omega)
      injection hq' with hq'
      subst hq'
      exact osz_get ho2 hj) (ors_one _) (by unfold maxLen; omega) (by omega) hbase (fun v' w' h2 h3 _ => h v' w' (by rw [ors_app]; exact h2) h3)
theorem grow_any (k : Nat) (w : World) (hk : k ≤ 100000000) :
    Calls Tryd.prog 34 #[.slice none 0 0, .int .i64 k] w fun e w' => ∃ v, e = .returned v ∧ w'.ownsRow w.heap.size 46 7 v 0 [] ∧ Below w.heap.size w w' := by
  by_cases h0 : k = 0
  · subst h0
    go_enter Tryd.func34, Tryd.ntmps34
    go_wp2
    go_ret
    exact ⟨_, rfl, World.ownsRow_nil _ _ _ _, Below.refl _ _⟩
  · obtain ⟨i0, hi, hz0, hz1, hz2⟩ := info_parts infoX33all
    have hr := Go.Lib.run_append_nil_zeros (P := Tryd.prog) w 24 3 24 46 i0 _ .i64 .i64 Tryd.underlying24 Tryd.underlying3 hi hz0 k (by omega) (by omega) (by omega) (by rw [hz2]; omega)
    have hge := grownCap_ge w k 0 46
    have hcm := grownCap_le_maxLen w k 0 46 (by unfold maxLen; omega)
    obtain ⟨cp, hcp⟩ : ∃ c, grownCap w k 0 46 = c := ⟨_, rfl⟩
    obtain ⟨g, hg⟩ : ∃ g, w.heap.size = g := ⟨_, rfl⟩
    rw [hcp] at hr hge hcm
    obtain ⟨w1, hw1⟩ : ∃ W, w.drew.alloc (.cells (Builtin.zeroCells (Value.cells (.agg #[.int .u64 0, .int .u32 0, .int .i64 0, .int .i64 0, .int .u64 0, .int .u64 0, .int .u64 0])) k ++ Builtin.zeroCells (Value.cells (.agg #[.int .u64 0, .int .u32 0, .int .i64 0, .int .i64 0, .int .u64 0, .int .u64 0, .int .u64 0])) (cp - k)) 46) = W := ⟨_, rfl⟩
    have FIN := hid (show w1.ownsRow w.heap.size 46 7 (.slice (some ⟨g, 0, none⟩) 0 cp) 0 [] ∧ Below w.heap.size w w1 from by
      rw [← hw1, ← hg]
      refine ⟨⟨by simp, .inr ⟨w.heap.size, cp, _, rfl, Nat.le_refl _, heap_alloc_new w.drew _, Nat.zero_le _, hcm, ?_, by simp⟩⟩, btr (Cp.bdrew1 w) (ball _ _)⟩
      rw [Array.size_append, size_zeroCells, size_zeroCells]
      show k * 7 + (cp - k) * 7 = cp * 7
      omega)
    rw [hw1, hg] at hr
    have HR := hid hr
    have k0 : (0 : Int) < (k : Int) := by omega
    have k1 : ¬ (k : Int) < 0 := by omega
    have k2 : decide ((k : Int) < 0) = false := decide_eq_false k1
    have k3 : decide ((0 : Int) < (k : Int)) = true := decide_eq_true k0
    have k4 : IntKind.i64.wrap (k : Int) = k := by rw [IntKind.wrap_i64]; omega
    have k5 : decide (0 < k) = true := decide_eq_true (by omega)
    clear hr hw1 hcp hi hz0 hz1 hz2 h0 hg
    go_enter Tryd.func34, Tryd.ntmps34
    go_wp2_with (at_builtin; refine Go.Lib.wpList_append_run _ rfl _ _ _ _ rfl _ _ rfl rfl _ _ HR.out ?_)
    go_ret
    exact ⟨_, rfl, FIN.out.1, FIN.out.2⟩
theorem concat_any (S : Nat) (pb ps : Option Addr) (cb cs n m : Nat) (b s : List Or) (w : World) (hS : w.heap[S]? = some (.cells #[.slice pb n cb, .slice ps m cs] 24 (0, 0))) (hb : Osz w pb b) (hs : Osz w ps s) (nb : pb = none → n = 0 ∧ cb = 0) (ns : ps = none → m = 0 ∧ cs = 0) (hn : b.length = n) (hm : s.length = m) (hnm : n + m ≤ 100000000) :
    Calls Tryd.prog 15 #[.slice (some ⟨S, 0, none⟩) 2 2] w fun e w' => ∃ v, e = .returned v ∧ w'.ownsRow w.heap.size 46 7 v (n + m) (ors (b ++ s)) ∧ Below w.heap.size w w' := by
  have HS := hid hS
  have HB := hid hb
  have HO := hid hs
  have NB := hid nb
  have NS := hid ns
  have HN := hid hn
  have HM := hid hm
  have NM := hid hnm
  clear hS hb hs nb ns hn hm hnm
  have c0 : w.cell? ⟨S, 0, none⟩ = some (.slice pb n cb) := row_cell HS.out 0
  have c1 : w.cell? ⟨S, 1, none⟩ = some (.slice ps m cs) := row_cell HS.out 1
  obtain ⟨t, ht⟩ : ∃ t, n + m = t := ⟨_, rfl⟩
  have HT := hid ht
  have e1 : IntKind.i64.wrap (n : Int) = n := by have := NM.out; rw [IntKind.wrap_i64]; omega
  have e2 : IntKind.i64.wrap ((n : Int) + (m : Int)) = (t : Int) := by have := NM.out; rw [IntKind.wrap_i64]; omega
  have e3 : decide ((n : Int) < 0) = false := decide_eq_false (by omega)
  have e4 : decide ((t : Int) < 0) = false := decide_eq_false (by omega)
  have GR := hid (fun (U : World) => grow_any t U (by have := NM.out; omega))
  clear ht
  go_enter Tryd.func15, Tryd.ntmps15
  go_upto_region 3 with fail
  go_loopw [3, 5, 11] (fun sv _ iv wr => Hid (wr = w) ∧ ((iv = .int .i64 0 ∧ sv = .int .i64 0) ∨ (iv = .int .i64 1 ∧ sv = .int .i64 n) ∨ (iv = .int .i64 2 ∧ sv = .int .i64 (t : Int)))) (fun _ _ iv _ => 2 - (intOf iv).toNat)
  case atStart => exact ⟨rfl, .inl ⟨rfl, rfl⟩⟩
  case round =>
    obtain ⟨hww, ⟨rfl, rfl⟩ | ⟨rfl, rfl⟩ | ⟨rfl, rfl⟩⟩ := hrel
    · obtain rfl := hww.out
      go_wp2
      go_roundw
      case rel => exact ⟨trivial, .inr (.inl ⟨rfl, rfl⟩)⟩
      case measure => decide
    · obtain rfl := hww.out
      go_wp2
      go_roundw
      case rel => exact ⟨trivial, .inr (.inr ⟨rfl, rfl⟩)⟩
      case measure => decide
    · obtain rfl := hww.out
      clear e1 e2 e3 e4
      obtain ⟨w0, hw0⟩ : ∃ x, x = wr := ⟨_, rfl⟩
      subst hw0
      go_upto_region 10 with (go_at_call 34; with_reducible refine (GR.out w0).mono ?_; rintro e w1 ⟨v1, rfl, h1, h2⟩; have OW := hid h1; have BW := hid h2; clear h1 h2)
      clear c0 c1
      go_upto_region 11 with fail
      go_loopw [6, 8, 27] (fun av _ iv wq => Hid (Below w0.heap.size w0 wq) ∧ ((iv = .int .i64 0 ∧ Hid (wq.ownsRow w0.heap.size 46 7 av 0 (ors []))) ∨ (iv = .int .i64 1 ∧ Hid (wq.ownsRow w0.heap.size 46 7 av n (ors b))) ∨ (iv = .int .i64 2 ∧ Hid (wq.ownsRow w0.heap.size 46 7 av (n + m) (ors (b ++ s)))))) (fun _ _ iv _ => 2 - (intOf iv).toNat)
      case atStart => exact ⟨BW, .inl ⟨rfl, OW⟩⟩
      case round =>
        clear OW BW
        obtain ⟨BQ, ⟨rfl, OQ⟩ | ⟨rfl, OQ⟩ | ⟨rfl, OQ⟩⟩ := hrel
        · have c0 : wr.cell? ⟨S, 0, none⟩ = some (.slice pb n cb) := row_cell (row_on HS.out BQ.out) 0
          go_wp2_with (at_builtin; refine wpList_app_or (by rfl) (.tmp 31) (.tmp 32) (by rfl) w0.heap.size _ 0 [] (by rfl) OQ.out pb cb b n HN.out (by rfl) (HB.out.on BQ.out) NB.out (by have := NM.out; omega) BQ.out.size ?_; intro v2 w2 h1 h2; have O2 := hid h1; have B2 := hid (BQ.out.grown h2 BQ.out.size (fun j hj => (OQ.out.lt j hj).1)); clear h1 h2)
          go_roundw
          case rel => exact ⟨B2, .inr (.inl ⟨rfl, by simpa using O2⟩)⟩
          case measure => decide
        · have c1 : wr.cell? ⟨S, 1, none⟩ = some (.slice ps m cs) := row_cell (row_on HS.out BQ.out) 1
          go_wp2_with (at_builtin; refine wpList_app_or (by rfl) (.tmp 31) (.tmp 32) (by rfl) w0.heap.size _ n b (by rfl) OQ.out ps cs s m HM.out (by rfl) (HO.out.on BQ.out) NS.out (by have := NM.out; omega) BQ.out.size ?_; intro v2 w2 h1 h2; have O2 := hid h1; have B2 := hid (BQ.out.grown h2 BQ.out.size (fun j hj => (OQ.out.lt j hj).1)); clear h1 h2)
          go_roundw
          case rel => exact ⟨B2, .inr (.inr ⟨rfl, O2⟩)⟩
          case measure => decide
        · go_wp2
          go_ret
          exact ⟨_, rfl, OQ.out, BQ.out⟩
end Go.Proofs.YtjpkodllemoniaaDoor.Wi
