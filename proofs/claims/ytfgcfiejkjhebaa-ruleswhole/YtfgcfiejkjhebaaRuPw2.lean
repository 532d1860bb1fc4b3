/-
  Two plays side by side; events compared.
-/
import Derived.Test.YtfgcfiejkjhebaaRuLd
namespace Go.Proofs.Ytfgcfiejkjhebaa
open Go.RowKit Go.Deep Go.Shelf
set_option linter.unusedVariables false
set_option linter.unusedSimpArgs false
set_option maxHeartbeats 8000000
set_option maxRecDepth 100000
/-- two plays side by side. -/
structure Pw (w : World) (B : Nat) (b : Bs) (Q : Nat) (c : Bs) (U : World) : Prop where
  p : Pl w B b U
  q : Pl w Q c U
  ap : ∀ j, b.fp B j → ¬ c.fp Q j
theorem Pw.on {w : World} {B Q : Nat} {b c : Bs} {U V : World} (h : Pw w B b Q c U) (hb : Below U.heap.size U V) : Pw w B b Q c V := ⟨h.p.on hb, h.q.on hb, h.ap⟩
theorem Pw.symm {w : World} {B Q : Nat} {b c : Bs} {U : World} (h : Pw w B b Q c U) : Pw w Q c B b U := ⟨h.q, h.p, fun j h1 h2 => h.ap j h2 h1⟩
theorem Bm.lt {w : World} {B : Nat} {b : Bs} (h : Bm w B b) {j : Nat} (hj : b.fp B j) : j < w.heap.size := by
  obtain ⟨c, t, e, _⟩ := h.ty hj
  exact row_lt e
theorem pw_new {w : World} {B Q : Nat} {b c : Bs} {U V : World} (h : Pl w B b U) (k : Pl U Q c V) : Pw w B b Q c V :=
  ⟨h.on k.be, k.back h.be, fun j h1 h2 => by have := h.bm.lt h1; have := k.nw j h2; omega⟩
theorem pw_do {w : World} {B Q : Nat} {b c : Bs} {U : World} (x : Cm) (h : Pw w B b Q c U) (hc : CmOk x) :
    Calls Try.prog 7 #[.pointer (some ⟨B, 0, none⟩), .agg (cmr x)] U fun e w' => ∃ b' p q es', e = .returned (.slice p es'.length q) ∧ Pw w B b' Q c w' ∧ w'.ownsRow 0 50 13 (.slice p es'.length q) es'.length (evs es') ∧ Did b x b' es' ∧ Kp (b.fp B) U w' := by
  refine (do_any B b x U h.p.bm h.p.gb.vb hc).mono ?_
  rintro e w' ⟨T, b', ve', es', rfl, htd, hd⟩
  obtain ⟨p, q, rfl⟩ := own_form htd.tn.ev
  have hbe : Below w.heap.size w w' := h.p.be.trans (htd.kp.below h.p.be.size (fun j hj hf => by have := h.p.nw j hf; omega))
  refine ⟨b', p, q, es', rfl, ⟨⟨hbe, htd.tn.bm, (hd.good h.p.gb hc).1, fun j hj => ?_⟩, ⟨hbe, h.q.bm.kept htd.kp (fun j hj hb => h.ap j hb hj), h.q.gb, h.q.nw⟩, fun j hj hq => ?_⟩, htd.tn.ev, hd, htd.kp⟩
  · rcases htd.fr j (.inr hj) with e | e
    · exact h.p.nw j e
    · exact Nat.le_trans h.p.be.size e
  · rcases htd.fr j (.inr hj) with e | e
    · exact h.ap j e hq
    · have := h.q.bm.lt hq; omega
/-- the events of one play stay while the other goes on. -/
theorem ev_kept {Q : Nat} {c : Bs} {U V : World} {base n : Nat} {v : Value} {xs : List Value} (h : U.ownsRow base 50 13 v n xs) (hb : Bm U Q c) (hk : Kp (c.fp Q) U V) : V.ownsRow base 50 13 v n xs :=
  own_same h (fun g hg => by
    obtain ⟨cur, e⟩ := own_ty h hg
    exact hk.obj g (row_lt e) (fun hf => hb.ne e (by decide) (by decide) (by decide) hf rfl))
theorem pw_load {w : World} {B Q : Nat} {b c : Bs} {U V : World} {base : Nat} {p1 p2 : Option Addr} {c1 c2 : Nat} (h : Pw w B b Q c U) (k : Snd b) (h1 : U.ownsRow base 42 7 (.slice p1 b.l1.length c1) b.l1.length (ors (osl b.l1))) (h2 : U.ownsRow base 42 7 (.slice p2 b.l2.length c2) b.l2.length (ors (osl b.l2))) :
    Calls Try.prog 12 #[.pointer (some ⟨Q, 0, none⟩), .agg (bkv b (.slice p1 b.l1.length c1) (.slice p2 b.l2.length c2))] U fun e w' => e = .returned (.int .i64 0) ∧ ∃ c', Pw w B b Q c' w' ∧ Sm b c' := by
  refine (load_told h.p.gb k Q c U h.q.bm.row h1 h2).mono ?_
  rintro e w' ⟨rfl, c', hm, hs, hf, hk⟩
  have hQw := h.q.nw Q (.inl rfl)
  have hbe : Below w.heap.size w w' := h.p.be.trans (hk.below h.p.be.size (fun j hj e => by omega))
  refine ⟨rfl, c', ⟨⟨hbe, h.p.bm.kept hk (fun j hj e => h.ap j hj (e ▸ .inl rfl)), h.p.gb, h.p.nw⟩, ⟨hbe, hm, hs.gb h.p.gb, fun j hj => ?_⟩, fun j hj hc => ?_⟩, hs⟩
  · rcases hf j hj with rfl | e
    · exact hQw
    · exact Nat.le_trans h.p.be.size e
  · rcases hf j hc with rfl | e
    · exact h.ap _ hj (.inl rfl)
    · have := h.p.bm.lt hj; omega
/-- events in memory, wherever. -/
def Evz (w : World) (q : Option Addr) (l : List Ev) : Prop := ∀ i (h : i < l.length), ∃ b off, q = some ⟨b, off, none⟩ ∧ b < w.heap.size ∧ ∀ j, j < 13 → w.cell? ⟨b, off + i * 13 + j, none⟩ = (ecs l[i])[j]?
theorem evz_of {base : Nat} {w : World} {p : Option Addr} {c : Nat} {es : List Ev} (h : w.ownsRow base 50 13 (.slice p es.length c) es.length (evs es)) : Evz w p es := by
  intro i hi
  obtain ⟨g, c', e, _, ⟨cur, hc⟩, hj⟩ := ev_cells h hi
  obtain rfl := (Value.slice.inj e).1
  exact ⟨g, 0, rfl, row_lt hc, fun j h => by rw [Nat.zero_add]; exact hj j h⟩
theorem evz_cells {W U : World} {q : Option Addr} {l : List Ev} (h : Evz W q l) (hU : Below W.heap.size W U) {i : Nat} (hi : i < l.length) : ∃ b off, q = some ⟨b, off, none⟩ ∧ U.cell? ⟨b, off + i * 13, none⟩ = some (.int .u64 l[i].sq) ∧ U.cell? ⟨b, off + i * 13 + 1, none⟩ = some (.int .i64 l[i].kd) ∧ U.cell? ⟨b, off + i * 13 + 2, none⟩ = some (.int .u64 l[i].id) ∧ U.cell? ⟨b, off + i * 13 + 3, none⟩ = some (.int .u64 l[i].ot) ∧ U.cell? ⟨b, off + i * 13 + 4, none⟩ = some (.int .u64 l[i].tg) ∧ U.cell? ⟨b, off + i * 13 + 5, none⟩ = some (.int .u32 l[i].mb) ∧ U.cell? ⟨b, off + i * 13 + 6, none⟩ = some (.int .i64 l[i].sd) ∧ U.cell? ⟨b, off + i * 13 + 7, none⟩ = some (.int .i64 l[i].ty) ∧ U.cell? ⟨b, off + i * 13 + 8, none⟩ = some (.int .i64 l[i].pr) ∧ U.cell? ⟨b, off + i * 13 + 9, none⟩ = some (.int .u64 l[i].qt) ∧ U.cell? ⟨b, off + i * 13 + 10, none⟩ = some (.int .u64 l[i].pk) ∧ U.cell? ⟨b, off + i * 13 + 11, none⟩ = some (.int .i64 l[i].rs) ∧ U.cell? ⟨b, off + i * 13 + 12, none⟩ = some (.int .i64 l[i].cd) := by
  obtain ⟨b, off, hq, hb, hc⟩ := h i hi
  have go : ∀ j, j < 13 → U.cell? ⟨b, off + i * 13 + j, none⟩ = (ecs l[i])[j]? := fun j hj => (hU.cell (p := ⟨b, off + i * 13 + j, none⟩) hb).trans (hc j hj)
  exact ⟨b, off, hq, go 0 (by omega), go 1 (by omega), go 2 (by omega), go 3 (by omega), go 4 (by omega), go 5 (by omega), go 6 (by omega), go 7 (by omega), go 8 (by omega), go 9 (by omega), go 10 (by omega), go 11 (by omega), go 12 (by omega)⟩
theorem events_any (p p2 : Option Addr) (c c2 : Nat) (l : List Ev) (w : World) (h : Evz w p l) (h2 : Evz w p2 l) (hn : l.length ≤ maxLen) :
    Calls Try.prog 13 #[.slice p l.length c, .slice p2 l.length c2] w fun e w' => e = .returned (.bool true) ∧ Below w.heap.size w w' := by
  obtain ⟨n, hnn⟩ : ∃ n, l.length = n := ⟨_, rfl⟩
  have HN := hid hnn
  have H1 := hid h
  have H2 := hid h2
  rw [hnn] at hn ⊢
  have hmx' : n < 9223372036854775808 := by unfold maxLen at hn; omega
  clear hnn h h2 hn
  go_enter Try.func13, Try.ntmps13
  go_wp2_with fail
  go_loopw [5] (fun iv wr => ∃ i : Nat, i ≤ n ∧ iv = .int .i64 i ∧ Hid (Below w.heap.size w wr)) (fun iv _ => n - (intOf iv).toNat)
  case atStart => exact ⟨0, Nat.zero_le _, rfl, hid (Below.refl _ _)⟩
  case round =>
    obtain ⟨i, hin, rfl, HB⟩ := hrel
    by_cases hlt : i < n
    · have hil : i < l.length := by rw [HN.out]; exact hlt
      obtain ⟨g, o, hp, a0, a1, a2, a3, a4, a5, a6, a7, a8, a9, a10, a11, a12⟩ := evz_cells H1.out HB.out hil
      obtain ⟨g2, o2, hp2, b0, b1, b2, b3, b4, b5, b6, b7, b8, b9, b10, b11, b12⟩ := evz_cells H2.out HB.out hil
      subst hp
      subst hp2
      obtain ⟨z, hz⟩ : ∃ z, l[i] = z := ⟨_, rfl⟩
      rw [hz] at a0 a1 a2 a3 a4 a5 a6 a7 a8 a9 a10 a11 a12 b0 b1 b2 b3 b4 b5 b6 b7 b8 b9 b10 b11 b12
      have i0' : (0 : Int) ≤ (i : Int) := by omega
      have i1 : (i : Int) < (n : Int) := by omega
      clear hz
      go_wp2_with fail
      go_region
      go_wp2
      go_roundw
      case rel => exact ⟨i + 1, by omega, by go_num, hid (btr HB.out (bdrew1 _))⟩
      case measure => simp [intOf]; omega
    · obtain rfl : i = n := by omega
      go_wp2
      go_ret
      exact ⟨rfl, HB.out⟩
theorem bkv_sm {b c : Bs} (h : Sm b c) (v1 v2 : Value) : bkv c v1 v2 = bkv b v1 v2 := by
  unfold bkv
  rw [h.num.1, h.num.2.1, h.num.2.2.1, h.num.2.2.2]
end Go.Proofs.Ytfgcfiejkjhebaa
