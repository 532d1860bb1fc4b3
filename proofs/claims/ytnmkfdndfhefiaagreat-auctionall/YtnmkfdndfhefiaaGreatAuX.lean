/-
  Enter, whatever comes; the first example, plain; two quotes and two fills compared.
-/
import Derived.Test.YtnmkfdndfhefiaaGreatAuW
namespace Go.Proofs.YtnmkfdndfhefiaaGreat
open Go.RowKit Go.Deep Go.Shelf Go.Sort
set_option linter.unusedVariables false
set_option linter.unusedSimpArgs false
set_option maxHeartbeats 4000000
set_option maxRecDepth 100000
theorem eqF_nil (d : Nat) (xs ys : Array Value) (w : World) : (Op.eqFields d xs ys []).run Tryz.prog w = .ok true w := by simp [Op.eqFields]
theorem eqF_any (d : Nat) (xs ys : Array Value) (f : Field) (fs : List Field) (u v : Value) (c : Bool) {r : Bool} {w : World} (hn : f.name ≠ "_") (hx : (part f.type xs f.offset).run Tryz.prog w = .ok u w) (hy : (part f.type ys f.offset).run Tryz.prog w = .ok v w)
    (hq : (Op.equalIn d f.type u v).run Tryz.prog w = .ok c w) (hr : (Op.eqFields d xs ys fs).run Tryz.prog w = .ok r w) : (Op.eqFields d xs ys (f :: fs)).run Tryz.prog w = .ok (c && r) w := by
  simp only [Op.eqFields, if_pos hn, Sem.run_bind, hx, hy, hq, Result.andThen_ok, Sem.run_ite]
  cases c
  · simp
  · simp [hr]
theorem eqF_cons (d : Nat) (xs ys : Array Value) (f : Field) (fs : List Field) (k k' : IntKind) (a b : Int) {r : Bool} {w : World} (hn : f.name ≠ "_") (hx : (part f.type xs f.offset).run Tryz.prog w = .ok (.int k a) w) (hy : (part f.type ys f.offset).run Tryz.prog w = .ok (.int k b) w)
    (hu : Tryz.prog.underlying f.type = some (.int k')) (hr : (Op.eqFields (d + 1) xs ys fs).run Tryz.prog w = .ok r w) : (Op.eqFields (d + 1) xs ys (f :: fs)).run Tryz.prog w = .ok ((a == b) && r) w :=
  eqF_any (d + 1) xs ys f fs _ _ (a == b) hn hx hy (run_equalIn_int w d f.type k k' a b hu) hr
theorem part_int (t : TypeId) (xs : Array Value) (o : Nat) (v : Value) (ha : ∀ w, (isAgg t).run Tryz.prog w = .ok false w) (h : xs[o]? = some v) (w : World) : (part t xs o).run Tryz.prog w = .ok v w := by
  simp [part, Sem.run_bind, ha, h]
theorem underQ : Tryz.prog.underlying 57 = some (.struct (Tryz.prog.fieldsOf 57)) := by kernel_rfl
theorem stoodQ : Tryz.prog.stoodInHeld 57 = false := by kernel_rfl
theorem eqQR (x y : Qt) (w : World) : (Op.equalIn 10000 57 (.agg (qrow x)) (.agg (qrow y))).run Tryz.prog w = .ok ((x.pr == y.pr) && ((x.vo == y.vo) && ((x.su == y.su) && ((x.sd == y.sd) && ((x.ru == y.ru) && true))))) w := by
  rw [show (10000 : Nat) = 9999 + 1 from rfl, run_equalIn_struct w 9999 57 _ _ underQ stoodQ]
  simp only [Program.fieldsOf, Tryz.underlying57]
  exact eqF_cons _ _ _ _ _ .i64 .i64 _ _ (by decide) (part_int 3 _ _ _ Tryz.isAgg3 rfl _) (part_int 3 _ _ _ Tryz.isAgg3 rfl _) Tryz.underlying3 (eqF_cons _ _ _ _ _ .u64 .u64 _ _ (by decide) (part_int 32 _ _ _ Tryz.isAgg32 rfl _) (part_int 32 _ _ _ Tryz.isAgg32 rfl _) Tryz.underlying32 (eqF_cons _ _ _ _ _ .u64 .u64 _ _ (by decide) (part_int 32 _ _ _ Tryz.isAgg32 rfl _) (part_int 32 _ _ _ Tryz.isAgg32 rfl _) Tryz.underlying32 (eqF_cons _ _ _ _ _ .i64 .i64 _ _ (by decide) (part_int 3 _ _ _ Tryz.isAgg3 rfl _) (part_int 3 _ _ _ Tryz.isAgg3 rfl _) Tryz.underlying3 (eqF_cons _ _ _ _ _ .i64 .i64 _ _ (by decide) (part_int 3 _ _ _ Tryz.isAgg3 rfl _) (part_int 3 _ _ _ Tryz.isAgg3 rfl _) Tryz.underlying3 (eqF_nil _ _ _ _)))))
/-- two quotes compared. -/
theorem eqQ (x y : Qt) (w : World) : (Op.equalIn 10000 57 (.agg #[.int .i64 x.pr, .int .u64 x.vo, .int .u64 x.su, .int .i64 x.sd, .int .i64 x.ru]) (.agg #[.int .i64 y.pr, .int .u64 y.vo, .int .u64 y.su, .int .i64 y.sd, .int .i64 y.ru])).run Tryz.prog w = .ok (decide (x = y)) w := by
  have h := eqQR x y w
  unfold qrow at h
  rw [h]
  congr 1
  obtain ⟨a0, a1, a2, a3, a4⟩ := x
  obtain ⟨b0, b1, b2, b3, b4⟩ := y
  simp only [Qt.mk.injEq, Bool.and_true]
  rw [Bool.eq_iff_iff]
  simp

theorem underF : Tryz.prog.underlying 67 = some (.struct (Tryz.prog.fieldsOf 67)) := by kernel_rfl
theorem stoodF : Tryz.prog.stoodInHeld 67 = false := by kernel_rfl
theorem eqFiR (x y : Fi) (w : World) : (Op.equalIn 10000 67 (.agg (frow x).toArray) (.agg (frow y).toArray)).run Tryz.prog w = .ok ((x.bu == y.bu) && ((x.se == y.se) && ((x.pr == y.pr) && ((x.qt == y.qt) && true)))) w := by
  rw [show (10000 : Nat) = 9999 + 1 from rfl, run_equalIn_struct w 9999 67 _ _ underF stoodF]
  simp only [Program.fieldsOf, Tryz.underlying67]
  exact eqF_cons _ _ _ _ _ .u64 .u64 _ _ (by decide) (part_int 32 _ _ _ Tryz.isAgg32 rfl _) (part_int 32 _ _ _ Tryz.isAgg32 rfl _) Tryz.underlying32 (eqF_cons _ _ _ _ _ .u64 .u64 _ _ (by decide) (part_int 32 _ _ _ Tryz.isAgg32 rfl _) (part_int 32 _ _ _ Tryz.isAgg32 rfl _) Tryz.underlying32 (eqF_cons _ _ _ _ _ .i64 .i64 _ _ (by decide) (part_int 3 _ _ _ Tryz.isAgg3 rfl _) (part_int 3 _ _ _ Tryz.isAgg3 rfl _) Tryz.underlying3 (eqF_cons _ _ _ _ _ .u64 .u64 _ _ (by decide) (part_int 32 _ _ _ Tryz.isAgg32 rfl _) (part_int 32 _ _ _ Tryz.isAgg32 rfl _) Tryz.underlying32 (eqF_nil _ _ _ _))))
/-- the buys behind an interest that is entered. -/
def eb (m : Int) (b s : List It) (x : It) : List It := if rfi m b s x = 0 ∧ x.sd = 1 then ent x b else b
/-- the sells behind it. -/
def es (m : Int) (b s : List It) (x : It) : List It := if rfi m b s x = 0 ∧ x.sd = 2 then ent x s else s
theorem enter_any (B : Nat) (r m : Int) (p1 : Option Addr) (c1 : Nat) (b : List It) (p2 : Option Addr) (c2 : Nat) (s : List It) (x : It) (w : World) (h : Cl w B r m p1 c1 b p2 c2 s) :
    Calls Tryz.prog 11 #[.pointer (some ⟨B, 0, none⟩), .agg #[.int .u64 x.id, .int .u32 x.mb, .int .i64 x.sd, .int .i64 x.ty, .int .i64 x.pr, .int .u64 x.qt]] w fun e w' => e = .returned (.int .i64 (rfi m b s x)) ∧ ∃ q1 d1 q2 d2, Cl w' B r m q1 d1 (eb m b s x) q2 d2 (es m b s x) ∧ (∀ g, OfP q1 g ∨ OfP q2 g → (OfP p1 g ∨ OfP p2 g) ∨ w.heap.size ≤ g) ∧ Kp (fun j => j = B ∨ OfP p1 j ∨ OfP p2 j) w w' := by
  by_cases hr : rfi m b s x = 0
  · obtain ⟨hck, _⟩ := rfi_ok hr
    rcases (ck_ok hck).2 with hs | hs
    · refine (enter_buy B r m p1 c1 b p2 c2 s x w h hr hs).mono ?_
      rintro e w' ⟨rfl, q, d, h1, h2, h3⟩
      refine ⟨by rw [hr], q, d, p2, c2, ?_, ?_, h3.mono (fun g _ hg => hg.elim .inl (fun h => .inr (.inl h)))⟩
      · rw [eb, es, if_pos ⟨hr, hs⟩, if_neg (by omega)]; exact h1
      · rintro g (hg | hg)
        · exact (h2 g hg).imp .inl id
        · exact .inl (.inr hg)
    · refine (enter_sell B r m p1 c1 b p2 c2 s x w h hr hs).mono ?_
      rintro e w' ⟨rfl, q, d, h1, h2, h3⟩
      refine ⟨by rw [hr], p1, c1, q, d, ?_, ?_, h3.mono (fun g _ hg => hg.elim .inl (fun h => .inr (.inr h)))⟩
      · rw [eb, es, if_neg (by omega), if_pos ⟨hr, hs⟩]; exact h1
      · rintro g (hg | hg)
        · exact .inl (.inl hg)
        · exact (h2 g hg).imp .inr id
  · refine (enter_bad B r m p1 c1 b p2 c2 s x w h hr).mono ?_
    rintro e w' ⟨rfl, hb⟩
    refine ⟨rfl, p1, c1, p2, c2, ?_, fun g hg => .inl hg, Kp.of _ hb⟩
    rw [eb, es, if_neg (by omega), if_neg (by omega)]
    exact h.on hb
def exi : List It := [⟨1, 0, 1, 1, 102, 10⟩, ⟨2, 0, 1, 1, 101, 10⟩, ⟨3, 0, 2, 1, 99, 5⟩, ⟨4, 0, 2, 1, 101, 10⟩]
def exb : Nat → List It
  | 0 => []
  | 1 => [⟨1, 0, 1, 1, 102, 10⟩]
  | _ => [⟨1, 0, 1, 1, 102, 10⟩, ⟨2, 0, 1, 1, 101, 10⟩]
def exs : Nat → List It
  | 0 => []
  | 1 => []
  | 2 => []
  | 3 => [⟨3, 0, 2, 1, 99, 5⟩]
  | _ => [⟨3, 0, 2, 1, 99, 5⟩, ⟨4, 0, 2, 1, 101, 10⟩]
theorem ex_step : ∀ i (hi : i < exi.length), rfi 9 (exb i) (exs i) exi[i] = 0 ∧ eb 9 (exb i) (exs i) exi[i] = exb (i + 1) ∧ es 9 (exb i) (exs i) exi[i] = exs (i + 1) := by decide +kernel
theorem ex_srt : srt [100, 102, 101, 99, 101] = [99, 100, 101, 101, 102] := by simp [srt, List.mergeSort, List.MergeSort.Internal.splitInTwo]
theorem ex_quo : quo 100 (exb 4) (exs 4) = some ⟨101, 15, 5, 1, 1⟩ := by
  have e : pcs 100 (exb 4) (exs 4) = [99, 100, 101, 102] := by
    show cpt (srt [100, 102, 101, 99, 101]) = _
    rw [ex_srt]
    decide +kernel
  unfold quo mst cds
  rw [e]
  decide +kernel
theorem ex_trd : trd 101 4 15 (exb 4) (exs 4) = ([⟨1, 3, 101, 5⟩, ⟨1, 4, 101, 5⟩, ⟨2, 4, 101, 5⟩], [⟨2, 0, 1, 1, 101, 5⟩], []) := by decide +kernel
end Go.Proofs.YtnmkfdndfhefiaaGreat
