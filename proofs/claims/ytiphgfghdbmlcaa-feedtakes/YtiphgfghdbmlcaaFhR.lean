/-
  Two pairs, whatever comes.
-/
import Derived.Test.YtiphgfghdbmlcaaHf
namespace Go.Proofs.Ytiphgfghdbmlcaa
open Go.RowKit Go.Deep
set_option linter.unusedVariables false
set_option linter.unusedSimpArgs false
set_option maxHeartbeats 8000000
set_option maxRecDepth 100000
/-- a step of the script. -/
structure Ov where
  kd : Int
  ot : Bool
  d : Dm
  ps : Int
  b1 : Option Addr
  k1 : Nat
  M1 : List Lv
  b2 : Option Addr
  k2 : Nat
  M2 : List Lv
structure Ok (w : World) (z : Ov) : Prop where
  sq : 0 ≤ z.d.sq ∧ z.d.sq < 18446744073709551616
  ps : 0 ≤ z.ps ∧ z.ps < 18446744073709551616
  r1 : Rl w z.b1 z.k1 z.M1
  r2 : Rl w z.b2 z.k2 z.M2
  l1 : z.M1.length * 24 + 24 ≤ 140737488355328
  l2 : z.M2.length * 24 + 24 ≤ 140737488355328
/-- the script came in. -/
def Oz (w : World) (q : Option Addr) (l : List Ov) : Prop := ∀ i (h : i < l.length), ∃ g o, q = some ⟨g, o, none⟩ ∧ g < w.heap.size ∧ (∀ j, j < 11 → w.cell? ⟨g, o + i * 11 + j, none⟩ = (#[.int .i64 l[i].kd, .bool l[i].ot, .int .u64 l[i].d.sq, .int .i64 l[i].d.kd, .int .i64 l[i].d.sd, .int .i64 l[i].d.pr, .int .u64 l[i].d.qt, .int .i64 l[i].d.ct, .int .u64 l[i].ps, .slice l[i].b1 l[i].M1.length l[i].k1, .slice l[i].b2 l[i].M2.length l[i].k2] : Array Value)[j]?) ∧ Ok w l[i]
/-- all that is a pair's. -/
def Fp (B S M : Nat) (p1 p2 q1 q2 q3 : Option Addr) (g : Nat) : Prop := g = B ∨ g = S ∨ g = M ∨ OfP p1 g ∨ OfP p2 g ∨ OfP q1 g ∨ OfP q2 g ∨ OfP q3 g
def Pk (w : World) (B hold k : Nat) (s : Ss) (F : Nat → Prop) : Prop := ∃ S M nm p1 c1 p2 c2 q1 e1 q2 e2 q3 e3, Px w B S M nm hold s p1 c1 p2 c2 q1 e1 q2 e2 q3 e3 ∧ nm ≤ k ∧ (∀ g, Fp B S M p1 p2 q1 q2 q3 g → F g) ∧ (∀ g, F g → g < w.heap.size)
theorem Px.fp {w : World} {B S M nm hold : Nat} {s : Ss} {p1 p2 q1 q2 q3 : Option Addr} {c1 c2 e1 e2 e3 : Nat} (h : Px w B S M nm hold s p1 c1 p2 c2 q1 e1 q2 e2 q3 e3) : ∀ g, Fp B S M p1 p2 q1 q2 q3 g → g < w.heap.size := by
  rintro g (e | e | e | e | e | e | e | e)
  · rw [e]; exact row_lt h.row
  · rw [e]; exact row_lt h.su.sb.row
  · rw [e]; exact h.su.sb.hm.lt
  · exact h.su.lt.1 g e
  · exact h.su.lt.2 g e
  · exact h.rd.ltP.1 g e
  · exact h.rd.ltP.2.1 g e
  · exact h.rd.ltP.2.2 g e
theorem Px.kept {w w' : World} {F : Nat → Prop} {B S M nm hold : Nat} {s : Ss} {p1 p2 q1 q2 q3 : Option Addr} {c1 c2 e1 e2 e3 : Nat} (h : Px w B S M nm hold s p1 c1 p2 c2 q1 e1 q2 e2 q3 e3) (hk : Kp F w w') (hF : ∀ g, Fp B S M p1 p2 q1 q2 q3 g → ¬ F g) : Px w' B S M nm hold s p1 c1 p2 c2 q1 e1 q2 e2 q3 e3 :=
  ⟨hk.row h.row (hF B (.inl rfl)), h.su.kept hk (fun g hg => hF g (by rcases hg with e | e | e | e; exact .inr (.inl e); exact .inr (.inr (.inl e)); exact .inr (.inr (.inr (.inl e))); exact .inr (.inr (.inr (.inr (.inl e)))))), h.rd.kept hk (fun g hg => hF g (.inr (.inr (.inr (.inr (.inr (.inl hg))))))) (fun g hg => hF g (.inr (.inr (.inr (.inr (.inr (.inr (.inl hg)))))))) (fun g hg => hF g (.inr (.inr (.inr (.inr (.inr (.inr (.inr hg)))))))), h.sg, h.a11, h.a12, h.a21, h.a22⟩
theorem Pk.kept {w w' : World} {F G : Nat → Prop} {B hold k : Nat} {s : Ss} (h : Pk w B hold k s F) (hk : Kp G w w') (hd : ∀ g, G g → ¬ F g) : Pk w' B hold k s F := by
  obtain ⟨S, M, nm, p1, c1, p2, c2, q1, e1, q2, e2, q3, e3, h1, h2, h3, h4⟩ := h
  exact ⟨S, M, nm, p1, c1, p2, c2, q1, e1, q2, e2, q3, e3, h1.kept hk (fun g hg hG => hd g hG (h3 g hg)), h2, h3, fun g hg => Nat.lt_of_lt_of_le (h4 g hg) hk.size⟩
theorem Pk.on {w w' : World} {F : Nat → Prop} {B hold k : Nat} {s : Ss} (h : Pk w B hold k s F) (hb : Below w.heap.size w w') : Pk w' B hold k s F := h.kept (Kp.of (fun _ => False) hb) (fun _ h => h.elim)
theorem pk_tells {w : World} {F : Nat → Prop} {B hold k : Nat} {s : Ss} (h : Pk w B hold k s F) (hh : hold ≤ 1024) : Calls Try.prog 20 #[.pointer (some ⟨B, 0, none⟩)] w fun e w' => e = .returned (.bool true) ∧ Hid (Below w.heap.size w w') := by
  obtain ⟨S, M, nm, p1, c1, p2, c2, q1, e1, q2, e2, q3, e3, h1, h2, h3, h4⟩ := h
  exact tells_any h1 hh
/-- a pair behind a step: F' is what is its own then. -/
def Pk' (w : World) (B hold k : Nat) (s : Ss) (F : Nat → Prop) (w' : World) : Prop := ∃ F', Pk w' B hold k s F' ∧ Kp F w w' ∧ ∀ g, F' g → F g ∨ w.heap.size ≤ g
theorem pk_step {w : World} {F : Nat → Prop} {B hold k : Nat} {s : Ss} (h : Pk w B hold k s F) (hh : hold ≤ 1024) (hk : k < maxLen) (n0 : Nat) (hn0 : n0 ≤ w.heap.size) (hF : ∀ g, F g → n0 ≤ g) (W0 : World) (hW0 : n0 = W0.heap.size) (hB0 : Below n0 W0 w) (z : Ov) (hz : Ok W0 z) :
    Calls Try.prog 19 #[.pointer (some ⟨B, 0, none⟩), .agg #[.int .i64 z.kd, .bool z.ot, .int .u64 z.d.sq, .int .i64 z.d.kd, .int .i64 z.d.sd, .int .i64 z.d.pr, .int .u64 z.d.qt, .int .i64 z.d.ct, .int .u64 z.ps, .slice z.b1 z.M1.length z.k1, .slice z.b2 z.M2.length z.k2]] w fun e w' => e = .returned (.bool true) ∧ ∃ s', Pk' w B hold (k + 1) s' F w' := by
  obtain ⟨S, M, nm, p1, c1, p2, c2, q1, e1, q2, e2, q3, e3, h1, h2, h3, h4⟩ := h
  have key := step_any h1 hh z.ot z.d hz.sq (by omega) z.ps hz.ps z.b1 z.b2 z.M1.length z.k1 z.M2.length z.k2 z.M1 z.M2 rfl rfl hz.l1 hz.l2 n0 hn0 (fun U hU => hz.r1.same (fun g o _ hg => by rw [hU g (by omega)]; exact hB0.block g (by omega))) (fun U hU => hz.r2.same (fun g o _ hg => by rw [hU g (by omega)]; exact hB0.block g (by omega))) (fun g hg => hF g (h3 g (by rcases hg with e | e | e | e | e; exact .inl e; exact .inr (.inl e); exact .inr (.inr (.inl e)); exact .inr (.inr (.inr (.inl e))); exact .inr (.inr (.inr (.inr (.inl e))))))) z.kd
  refine key.mono ?_
  rintro e w' ⟨rfl, nm', r1, f1, r2, f2, u1, g1, u2, g2, u3, g3, x0, x1, x2, x3, x4, x5, x6, x7⟩
  refine ⟨rfl, _, Fp B S M r1 r2 u1 u2 u3, ⟨S, M, nm', r1, f1, r2, f2, u1, g1, u2, g2, u3, g3, x1, by omega, fun g hg => hg, x1.fp⟩, x2.mono (fun g _ hg => h3 g (by rcases hg with e | e | e | e | e; exact .inl e; exact .inr (.inl e); exact .inr (.inr (.inl e)); exact .inr (.inr (.inr (.inl e))); exact .inr (.inr (.inr (.inr (.inl e)))))), ?_⟩
  rintro g (e | e | e | e | e | e | e | e)
  · exact .inl (h3 g (.inl e))
  · exact .inl (h3 g (.inr (.inl e)))
  · exact .inl (h3 g (.inr (.inr (.inl e))))
  · exact (x3 g e).imp (fun e => h3 g (.inr (.inr (.inr (.inl e))))) _root_.id
  · exact (x4 g e).imp (fun e => h3 g (.inr (.inr (.inr (.inr (.inl e)))))) _root_.id
  · exact (x5 g e).imp (fun e => h3 g (.inr (.inr (.inr (.inr (.inr (.inl e))))))) _root_.id
  · exact (x6 g e).imp (fun e => h3 g (.inr (.inr (.inr (.inr (.inr (.inr (.inl e)))))))) _root_.id
  · exact (x7 g e).imp (fun e => h3 g (.inr (.inr (.inr (.inr (.inr (.inr (.inr e)))))))) _root_.id
theorem two_new1 (w : World) (c1 c2 : Array Value) : ((w.alloc (.cells c1 62)).alloc (.cells c2 62)).drew.heap[w.heap.size]? = some (.cells c1 62 (0, 0)) ∧ ((w.alloc (.cells c1 62)).alloc (.cells c2 62)).drew.heap[w.heap.size + 1]? = some (.cells c2 62 (0, 0)) ∧ w.heap.size ≠ w.heap.size + 1 ∧ w.heap.size ≤ w.heap.size ∧ w.heap.size ≤ w.heap.size + 1 ∧ Below w.heap.size w ((w.alloc (.cells c1 62)).alloc (.cells c2 62)).drew := by
  refine ⟨row_on (row_on (World.alloc_heap_new w (.cells c1 62)) (ball _ _)) (bdrew1 _), ?_, by omega, by omega, by omega, btr (btr (ball _ _) (ball _ _)) (bdrew1 _)⟩
  have := row_on (World.alloc_heap_new (w.alloc (.cells c1 62)) (.cells c2 62)) (bdrew1 _)
  rw [show (w.alloc (.cells c1 62)).heap.size = w.heap.size + 1 from by simp] at this
  exact this
theorem two_new2 (w : World) (c1 c2 : Array Value) : ((w.alloc (.cells c2 62)).alloc (.cells c1 62)).drew.heap[w.heap.size + 1]? = some (.cells c1 62 (0, 0)) ∧ ((w.alloc (.cells c2 62)).alloc (.cells c1 62)).drew.heap[w.heap.size]? = some (.cells c2 62 (0, 0)) ∧ w.heap.size + 1 ≠ w.heap.size ∧ w.heap.size ≤ w.heap.size + 1 ∧ w.heap.size ≤ w.heap.size ∧ Below w.heap.size w ((w.alloc (.cells c2 62)).alloc (.cells c1 62)).drew := by
  obtain ⟨a, b, c, d, e, f⟩ := two_new1 w c2 c1
  exact ⟨b, a, c.symm, e, d, f⟩
def ss0 : Ss := ⟨0, 0, [], [], [], dm0⟩
theorem sg0 (hold : Nat) : Sg hold ss0 := ⟨⟨by decide, by decide⟩, ⟨by decide, by decide⟩, Lok.nil _, Lok.nil _, fun d hd => (by cases hd), List.Pairwise.nil, Nat.zero_le _, .inl rfl⟩
/-- between two steps. -/
structure Tp (W0 : World) (B1 B2 H1 H2 k : Nat) (w : World) : Prop where
  st : ∃ s1 s2 F1 F2, Pk w B1 H1 k s1 F1 ∧ Pk w B2 H2 k s2 F2 ∧ (∀ g, F1 g → ¬ F2 g) ∧ (∀ g, F1 g → W0.heap.size ≤ g) ∧ (∀ g, F2 g → W0.heap.size ≤ g)
  be : Below W0.heap.size W0 w
theorem Pk.more {w : World} {F : Nat → Prop} {B hold k m : Nat} {s : Ss} (h : Pk w B hold k s F) (hm : k ≤ m) : Pk w B hold m s F := by
  obtain ⟨S, M, nm, p1, c1, p2, c2, q1, e1, q2, e2, q3, e3, h1, h2, h3, h4⟩ := h
  exact ⟨S, M, nm, p1, c1, p2, c2, q1, e1, q2, e2, q3, e3, h1, Nat.le_trans h2 hm, h3, h4⟩
theorem Tp.on {W0 : World} {B1 B2 H1 H2 k : Nat} {w w' : World} (h : Tp W0 B1 B2 H1 H2 k w) (hb : Below w.heap.size w w') : Tp W0 B1 B2 H1 H2 k w' := by
  obtain ⟨⟨s1, s2, F1, F2, h1, h2, h3, h4, h5⟩, be⟩ := h
  exact ⟨⟨s1, s2, F1, F2, h1.on hb, h2.on hb, h3, h4, h5⟩, btr be hb⟩
theorem Tp.step1 {W0 : World} {B1 B2 H1 H2 k : Nat} {w : World} (h : Tp W0 B1 B2 H1 H2 k w) (hh : H1 ≤ 1024) (hk : k < maxLen) (z : Ov) (hz : Ok W0 z) : Calls Try.prog 19 #[.pointer (some ⟨B1, 0, none⟩), .agg #[.int .i64 z.kd, .bool z.ot, .int .u64 z.d.sq, .int .i64 z.d.kd, .int .i64 z.d.sd, .int .i64 z.d.pr, .int .u64 z.d.qt, .int .i64 z.d.ct, .int .u64 z.ps, .slice z.b1 z.M1.length z.k1, .slice z.b2 z.M2.length z.k2]] w fun e w' => e = .returned (.bool true) ∧ Hid (Tp W0 B1 B2 H1 H2 (k + 1) w') := by
  obtain ⟨⟨s1, s2, F1, F2, h1, h2, h3, h4, h5⟩, be⟩ := h
  refine (pk_step h1 hh hk W0.heap.size be.size h4 W0 rfl be z hz).mono ?_
  rintro e w' ⟨rfl, s', F', x1, x2, x3⟩
  have l2 : ∀ g, F2 g → g < w.heap.size := by obtain ⟨_, _, _, _, _, _, _, _, _, _, _, _, _, _, _, _, hl⟩ := h2; exact hl
  refine ⟨rfl, ⟨s', s2, F', F2, x1, (h2.kept x2 h3).more (by omega), fun g hg hg2 => ?_, fun g hg => ?_, h5⟩, be.trans (x2.below be.size (fun g hg hF => by have := h4 g hF; omega))⟩
  · rcases x3 g hg with e | e
    · exact h3 g e hg2
    · have := l2 g hg2; omega
  · rcases x3 g hg with e | e
    · exact h4 g e
    · exact Nat.le_trans be.size e
theorem Tp.swap {W0 : World} {B1 B2 H1 H2 k : Nat} {w : World} (h : Tp W0 B1 B2 H1 H2 k w) : Tp W0 B2 B1 H2 H1 k w := by
  obtain ⟨⟨s1, s2, F1, F2, h1, h2, h3, h4, h5⟩, be⟩ := h
  exact ⟨⟨s2, s1, F2, F1, h2, h1, fun g hg hg2 => h3 g hg2 hg, h5, h4⟩, be⟩
theorem Tp.step2 {W0 : World} {B1 B2 H1 H2 k : Nat} {w : World} (h : Tp W0 B1 B2 H1 H2 k w) (hh : H2 ≤ 1024) (hk : k < maxLen) (z : Ov) (hz : Ok W0 z) : Calls Try.prog 19 #[.pointer (some ⟨B2, 0, none⟩), .agg #[.int .i64 z.kd, .bool z.ot, .int .u64 z.d.sq, .int .i64 z.d.kd, .int .i64 z.d.sd, .int .i64 z.d.pr, .int .u64 z.d.qt, .int .i64 z.d.ct, .int .u64 z.ps, .slice z.b1 z.M1.length z.k1, .slice z.b2 z.M2.length z.k2]] w fun e w' => e = .returned (.bool true) ∧ Hid (Tp W0 B1 B2 H1 H2 (k + 1) w') :=
  (h.swap.step1 hh hk z hz).mono (fun e w' h => ⟨h.1, h.2.out.swap⟩)
theorem Tp.tells1 {W0 : World} {B1 B2 H1 H2 k : Nat} {w : World} (h : Tp W0 B1 B2 H1 H2 k w) (hh : H1 ≤ 1024) : Calls Try.prog 20 #[.pointer (some ⟨B1, 0, none⟩)] w fun e w' => e = .returned (.bool true) ∧ Hid (Tp W0 B1 B2 H1 H2 k w') := by
  have h' := h
  obtain ⟨⟨s1, s2, F1, F2, h1, h2, h3, h4, h5⟩, be⟩ := h'
  exact (pk_tells h1 hh).mono (fun e w' x => ⟨x.1, h.on x.2.out⟩)
theorem Tp.tells2 {W0 : World} {B1 B2 H1 H2 k : Nat} {w : World} (h : Tp W0 B1 B2 H1 H2 k w) (hh : H2 ≤ 1024) : Calls Try.prog 20 #[.pointer (some ⟨B2, 0, none⟩)] w fun e w' => e = .returned (.bool true) ∧ Hid (Tp W0 B1 B2 H1 H2 k w') :=
  (h.swap.tells1 hh).mono (fun e w' x => ⟨x.1, x.2.out.swap⟩)
theorem takes_nn (hold : Int) (hh1 : ¬ (0 ≤ hold ∧ hold ≤ 1024)) (other : Int) (hh2 : ¬ (0 ≤ other ∧ other ≤ 1024)) (q : Option Addr) (n cap : Nat) (w : World) :
    Calls Try.prog 4 #[.int .i64 hold, .int .i64 other, .slice q n cap] w fun e w' => e = .returned (.bool true) ∧ Below w.heap.size w w' := by
  have CN1 := hid (fun U => newS_no hold hh1 U)
  have CR1 := hid (fun U => rnewS_no hold hh1 U)
  have CN2 := hid (fun U => newS_no other hh2 U)
  have CR2 := hid (fun U => rnewS_no other hh2 U)
  go_enter Try.func4, Try.ntmps4
  go_upto_region 2 with (go_at_call 17; (with_reducible refine (CN1.out _).mono ?_); rintro e w1 ⟨rfl, hb⟩; have B1 := hid hb; clear hb)
  go_upto_region 3 with (go_at_call 18; (with_reducible refine (CR1.out _).mono ?_); rintro e w2 ⟨rfl, hb⟩; have B2 := hid (btr (btr B1.out hb) (ball w2 (.cells #[.int .i64 0, .int .u64 0, .slice none 0 0, .slice none 0 0, .slice none 0 0, .int .u64 0, .int .u64 0, .int .i64 0, .int .i64 0, .int .i64 0, .int .u64 0, .int .i64 0] 57))); clear hb)
  go_upto_region 4 with (go_at_call 17; (with_reducible refine (CN2.out _).mono ?_); rintro e w3 ⟨rfl, hb⟩; have B3 := hid (btr B2.out hb); clear hb)
  go_wp2_with (go_at_call 18; (with_reducible refine (CR2.out _).mono ?_); rintro e w4 ⟨rfl, hb⟩; have B4 := hid (btr (btr B3.out hb) (ball w4 (.cells #[.int .i64 0, .int .u64 0, .slice none 0 0, .slice none 0 0, .slice none 0 0, .int .u64 0, .int .u64 0, .int .i64 0, .int .i64 0, .int .i64 0, .int .u64 0, .int .i64 0] 57))); clear hb)
  go_ret
  exact ⟨rfl, B4.out⟩
theorem takes_ny (hold : Int) (hh1 : ¬ (0 ≤ hold ∧ hold ≤ 1024)) (other : Nat) (hh2 : other ≤ 1024) (q : Option Addr) (n cap : Nat) (w : World) :
    Calls Try.prog 4 #[.int .i64 hold, .int .i64 other, .slice q n cap] w fun e w' => e = .returned (.bool true) ∧ Below w.heap.size w w' := by
  have CN1 := hid (fun U => newS_no hold hh1 U)
  have CR1 := hid (fun U => rnewS_no hold hh1 U)
  have CN2 := hid (fun U => newS_ok other hh2 U)
  have CR2 := hid (fun U => rnewS_ok other hh2 U)
  go_enter Try.func4, Try.ntmps4
  go_upto_region 2 with (go_at_call 17; (with_reducible refine (CN1.out _).mono ?_); rintro e w1 ⟨rfl, hb⟩; have B1 := hid hb; clear hb)
  go_upto_region 3 with (go_at_call 18; (with_reducible refine (CR1.out _).mono ?_); rintro e w2 ⟨rfl, hb⟩; have B2 := hid (btr (btr B1.out hb) (ball w2 (.cells #[.int .i64 0, .int .u64 0, .slice none 0 0, .slice none 0 0, .slice none 0 0, .int .u64 0, .int .u64 0, .int .i64 0, .int .i64 0, .int .i64 0, .int .u64 0, .int .i64 0] 57))); clear hb)
  go_upto_region 4 with (go_at_call 17; (with_reducible refine (CN2.out _).mono ?_); rintro e w3 ⟨S2, M2, rfl, _, _, _, hb⟩; have B3 := hid (btr B2.out hb); clear hb)
  go_wp2_with (go_at_call 18; (with_reducible refine (CR2.out _).mono ?_); rintro e w4 ⟨rfl, hb⟩; have B4 := hid (btr (btr B3.out hb) (ball w4 (.cells #[.int .i64 other, .int .u64 0, .slice none 0 0, .slice none 0 0, .slice none 0 0, .int .u64 0, .int .u64 0, .int .i64 0, .int .i64 0, .int .i64 0, .int .u64 0, .int .i64 0] 57))); clear hb)
  go_ret
  exact ⟨rfl, B4.out⟩
theorem takes_yn (hold : Nat) (hh1 : hold ≤ 1024) (other : Int) (hh2 : ¬ (0 ≤ other ∧ other ≤ 1024)) (q : Option Addr) (n cap : Nat) (w : World) :
    Calls Try.prog 4 #[.int .i64 hold, .int .i64 other, .slice q n cap] w fun e w' => e = .returned (.bool true) ∧ Below w.heap.size w w' := by
  have CN1 := hid (fun U => newS_ok hold hh1 U)
  have CR1 := hid (fun U => rnewS_ok hold hh1 U)
  have CN2 := hid (fun U => newS_no other hh2 U)
  have CR2 := hid (fun U => rnewS_no other hh2 U)
  go_enter Try.func4, Try.ntmps4
  go_upto_region 2 with (go_at_call 17; (with_reducible refine (CN1.out _).mono ?_); rintro e w1 ⟨S1, M1, rfl, _, _, _, hb⟩; have B1 := hid hb; clear hb)
  go_upto_region 3 with (go_at_call 18; (with_reducible refine (CR1.out _).mono ?_); rintro e w2 ⟨rfl, hb⟩; have B2 := hid (btr (btr B1.out hb) (ball w2 (.cells #[.int .i64 hold, .int .u64 0, .slice none 0 0, .slice none 0 0, .slice none 0 0, .int .u64 0, .int .u64 0, .int .i64 0, .int .i64 0, .int .i64 0, .int .u64 0, .int .i64 0] 57))); clear hb)
  go_upto_region 4 with (go_at_call 17; (with_reducible refine (CN2.out _).mono ?_); rintro e w3 ⟨rfl, hb⟩; have B3 := hid (btr B2.out hb); clear hb)
  go_wp2_with (go_at_call 18; (with_reducible refine (CR2.out _).mono ?_); rintro e w4 ⟨rfl, hb⟩; have B4 := hid (btr (btr B3.out hb) (ball w4 (.cells #[.int .i64 0, .int .u64 0, .slice none 0 0, .slice none 0 0, .slice none 0 0, .int .u64 0, .int .u64 0, .int .i64 0, .int .i64 0, .int .i64 0, .int .u64 0, .int .i64 0] 57))); clear hb)
  go_ret
  exact ⟨rfl, B4.out⟩
theorem takes_yy (H1 : Nat) (hh1 : H1 ≤ 1024) (H2 : Nat) (hh2 : H2 ≤ 1024) (q : Option Addr) (cap : Nat) (l : List Ov) (w : World) (hT : Oz w q l) (hm : l.length ≤ maxLen) :
    Calls Try.prog 4 #[.int .i64 H1, .int .i64 H2, .slice q l.length cap] w fun e w' => e = .returned (.bool true) ∧ Below w.heap.size w w' := by
  have CN1 := hid (fun U => newS_ok H1 hh1 U)
  have CR1 := hid (fun U => rnewS_ok H1 hh1 U)
  have CN2 := hid (fun U => newS_ok H2 hh2 U)
  have CR2 := hid (fun U => rnewS_ok H2 hh2 U)
  obtain ⟨n, hn⟩ : ∃ n, l.length = n := ⟨_, rfl⟩
  have HN := hid hn
  have HT := hid hT
  have HM := hid hm
  have hn63 : n ≤ 9223372036854775807 := by unfold maxLen at hm; omega
  rw [hn]
  clear hT hm hn
  go_enter Try.func4, Try.ntmps4
  go_upto_region 2 with (go_at_call 17; (with_reducible refine (CN1.out _).mono ?_); rintro e w1 ⟨S1, M1, rfl, x1, x2, x3, hb⟩; have X1 := hid x1; have Y1 := hid x2; have Z1 := hid x3; have B1 := hid hb; clear hb x1 x2 x3)
  go_upto_region 3 with (go_at_call 18; (with_reducible refine (CR1.out _).mono ?_); rintro e w2 ⟨rfl, hb⟩; have B2 := hid hb; clear hb)
  obtain ⟨W2, hW2⟩ : ∃ W, w2.alloc (.cells #[.int .i64 H1, .int .u64 0, .slice none 0 0, .slice none 0 0, .slice none 0 0, .int .u64 0, .int .u64 0, .int .i64 0, .int .i64 0, .int .i64 0, .int .u64 0, .int .i64 0] 57) = W := ⟨_, rfl⟩
  obtain ⟨R1, hR1⟩ : ∃ R, w2.heap.size = R := ⟨_, rfl⟩
  have BW2 := hid (show Below w1.heap.size w1 W2 from by rw [← hW2]; exact btr B2.out (ball _ _))
  have HR1 := hid (show W2.heap[R1]? = some (.cells #[.int .i64 H1, .int .u64 0, .slice none 0 0, .slice none 0 0, .slice none 0 0, .int .u64 0, .int .u64 0, .int .i64 0, .int .i64 0, .int .i64 0, .int .u64 0, .int .i64 0] 57 (0, 0)) from by rw [← hW2, ← hR1]; exact World.alloc_heap_new _ _)
  rw [hW2, hR1]
  clear hW2 hR1
  have CN2' := hid (CN2.out W2)
  go_upto_region 4 with (go_at_call 17; (with_reducible refine (CN2'.out).mono ?_); rintro e w3 ⟨S2, M2, rfl, x1, x2, x3, hb⟩; have X2 := hid x1; have Y2 := hid x2; have Z2 := hid x3; have B3 := hid hb; clear hb x1 x2 x3)
  go_upto_region 5 with (go_at_call 18; (with_reducible refine (CR2.out _).mono ?_); rintro e w4 ⟨rfl, hb⟩; have B4 := hid hb; clear hb)
  obtain ⟨W4, hW4⟩ : ∃ W, w4.alloc (.cells #[.int .i64 H2, .int .u64 0, .slice none 0 0, .slice none 0 0, .slice none 0 0, .int .u64 0, .int .u64 0, .int .i64 0, .int .i64 0, .int .i64 0, .int .u64 0, .int .i64 0] 57) = W := ⟨_, rfl⟩
  obtain ⟨R2, hR2⟩ : ∃ R, w4.heap.size = R := ⟨_, rfl⟩
  have BW4 := hid (show Below w3.heap.size w3 W4 from by rw [← hW4]; exact btr B4.out (ball _ _))
  have HR2 := hid (show W4.heap[R2]? = some (.cells #[.int .i64 H2, .int .u64 0, .slice none 0 0, .slice none 0 0, .slice none 0 0, .int .u64 0, .int .u64 0, .int .i64 0, .int .i64 0, .int .i64 0, .int .u64 0, .int .i64 0] 57 (0, 0)) from by rw [← hW4, ← hR2]; exact World.alloc_heap_new _ _)
  have HR14 := hid (row_on HR1.out (btr B3.out BW4.out))
  rw [hW4, hR2]
  clear hW4 hR2
  go_upto_region 9 with fail
  have a0 := row_cell HR14.out 0
  have a1 := row_cell HR14.out 1
  have a2 := row_cell HR14.out 2
  have a3 := row_cell HR14.out 3
  have a4 := row_cell HR14.out 4
  have a5 := row_cell HR14.out 5
  have a6 := row_cell HR14.out 6
  have a7 := row_cell HR14.out 7
  have a8 := row_cell HR14.out 8
  have a9 := row_cell HR14.out 9
  have a10 := row_cell HR14.out 10
  have a11 := row_cell HR14.out 11
  have c0 := row_cell HR2.out 0
  have c1 := row_cell HR2.out 1
  have c2 := row_cell HR2.out 2
  have c3 := row_cell HR2.out 3
  have c4 := row_cell HR2.out 4
  have c5 := row_cell HR2.out 5
  have c6 := row_cell HR2.out 6
  have c7 := row_cell HR2.out 7
  have c8 := row_cell HR2.out 8
  have c9 := row_cell HR2.out 9
  have c10 := row_cell HR2.out 10
  have c11 := row_cell HR2.out 11
  have s1 : R1 < W4.heap.size := row_lt HR14.out
  have s2 : R2 < W4.heap.size := row_lt HR2.out
  refine reg_cut (X := Nat × Nat) (fun a t => ((((((((((a.put (some 67) (.pointer (some ⟨S1, 0, none⟩))).put (some 68) (.agg #[.int .i64 H1, .int .u64 0, .slice none 0 0, .slice none 0 0, .slice none 0 0, .int .u64 0, .int .u64 0, .int .i64 0, .int .i64 0, .int .i64 0, .int .u64 0, .int .i64 0])).put (some 69) (.agg #[.pointer (some ⟨S1, 0, none⟩), .int .i64 H1, .int .u64 0, .slice none 0 0, .slice none 0 0, .slice none 0 0, .int .u64 0, .int .u64 0, .int .i64 0, .int .i64 0, .int .i64 0, .int .u64 0, .int .i64 0])).put (some 70) (.pointer (some ⟨t.1, 0, none⟩))).put (some 71) (.pointer (some ⟨S2, 0, none⟩))).put (some 72) (.agg #[.int .i64 H2, .int .u64 0, .slice none 0 0, .slice none 0 0, .slice none 0 0, .int .u64 0, .int .u64 0, .int .i64 0, .int .i64 0, .int .i64 0, .int .u64 0, .int .i64 0])).put (some 73) (.agg #[.pointer (some ⟨S2, 0, none⟩), .int .i64 H2, .int .u64 0, .slice none 0 0, .slice none 0 0, .slice none 0 0, .int .u64 0, .int .u64 0, .int .i64 0, .int .i64 0, .int .i64 0, .int .u64 0, .int .i64 0])).put (some 74) (.pointer (some ⟨t.2, 0, none⟩))).put (some 15) (.pointer (some ⟨t.1, 0, none⟩))).put (some 16) (.pointer (some ⟨t.2, 0, none⟩)))) (fun t V => Hid (V.heap[t.1]? = some (.cells #[.pointer (some ⟨S1, 0, none⟩), .int .i64 H1, .int .u64 0, .slice none 0 0, .slice none 0 0, .slice none 0 0, .int .u64 0, .int .u64 0, .int .i64 0, .int .i64 0, .int .i64 0, .int .u64 0, .int .i64 0] 62 (0, 0)) ∧ V.heap[t.2]? = some (.cells #[.pointer (some ⟨S2, 0, none⟩), .int .i64 H2, .int .u64 0, .slice none 0 0, .slice none 0 0, .slice none 0 0, .int .u64 0, .int .u64 0, .int .i64 0, .int .i64 0, .int .i64 0, .int .u64 0, .int .i64 0] 62 (0, 0)) ∧ t.1 ≠ t.2 ∧ W4.heap.size ≤ t.1 ∧ W4.heap.size ≤ t.2 ∧ Below W4.heap.size W4 V)) ?_ ?_
  · go_region_law fail
    all_goals first
      | exact ⟨(W4.heap.size, W4.heap.size + 1), by kernel_rfl, two_new1 W4 _ _⟩
      | exact ⟨(W4.heap.size + 1, W4.heap.size), by kernel_rfl, two_new2 W4 _ _⟩
  rintro ⟨D1, D2⟩ V hT
  obtain ⟨d1, d2, d3, d4, d5, d6⟩ := hT.out
  try simp only [List.getElem_toArray, List.getElem_cons_succ, List.getElem_cons_zero, Act.put, List.setIfInBounds_toArray, List.set_cons_zero, List.set_cons_succ]
  clear hT a0 a1 a2 a3 a4 a5 a6 a7 a8 a9 a10 a11 c0 c1 c2 c3 c4 c5 c6 c7 c8 c9 c10 c11 s1 s2 CN1 CN2 CN2' CR1 CR2
  have HTP := hid (show Tp w D1 D2 H1 H2 0 V from by
    have z1 := B1.out.size
    have z2 := BW2.out.size
    have z3 := B3.out.size
    have z4 := BW4.out.size
    have bv1 : Below w1.heap.size w1 V := btr (btr (btr BW2.out B3.out) BW4.out) d6
    have bv3 : Below w3.heap.size w3 V := btr BW4.out d6
    have l1 := X1.out.hm.lt
    have l1' := row_lt X1.out.row
    have l2 := X2.out.hm.lt
    have l2' := row_lt X2.out.row
    have ny : ∀ g, ¬ OfP none g := fun g h => by cases h
    have P1 : Px V D1 S1 M1 0 H1 ss0 none 0 none 0 none 0 none 0 none 0 := ⟨d1, ⟨X1.out.on bv1, fun g h => (ny g h).elim⟩, ⟨Lo.nil0 _ _, Lo.nil0 _ _, Dw.nil0 _ _⟩, sg0 _, fun g h => (ny g h).elim, fun g h => (ny g h).elim, fun g h => (ny g h).elim, fun g h => (ny g h).elim⟩
    have P2 : Px V D2 S2 M2 0 H2 ss0 none 0 none 0 none 0 none 0 none 0 := ⟨d2, ⟨X2.out.on bv3, fun g h => (ny g h).elim⟩, ⟨Lo.nil0 _ _, Lo.nil0 _ _, Dw.nil0 _ _⟩, sg0 _, fun g h => (ny g h).elim, fun g h => (ny g h).elim, fun g h => (ny g h).elim, fun g h => (ny g h).elim⟩
    have f1 : ∀ g, Fp D1 S1 M1 none none none none none g → g = D1 ∨ g = S1 ∨ g = M1 := by
      rintro g (e | e | e | e | e | e | e | e)
      · exact .inl e
      · exact .inr (.inl e)
      · exact .inr (.inr e)
      all_goals exact (ny g e).elim
    have f2 : ∀ g, Fp D2 S2 M2 none none none none none g → g = D2 ∨ g = S2 ∨ g = M2 := by
      rintro g (e | e | e | e | e | e | e | e)
      · exact .inl e
      · exact .inr (.inl e)
      · exact .inr (.inr e)
      all_goals exact (ny g e).elim
    have y1 := Y1.out
    have zz1 := Z1.out
    have y2 := Y2.out
    have zz2 := Z2.out
    refine ⟨⟨ss0, ss0, Fp D1 S1 M1 none none none none none, Fp D2 S2 M2 none none none none none, ⟨S1, M1, 0, none, 0, none, 0, none, 0, none, 0, none, 0, P1, Nat.le_refl _, fun g h => h, P1.fp⟩, ⟨S2, M2, 0, none, 0, none, 0, none, 0, none, 0, none, 0, P2, Nat.le_refl _, fun g h => h, P2.fp⟩, fun g h1 h2 => ?_, fun g h1 => ?_, fun g h2 => ?_⟩, btr B1.out bv1⟩
    · rcases f1 g h1 with e | e | e <;> rcases f2 g h2 with k | k | k <;> first | exact d3 (e.symm.trans k) | omega
    · rcases f1 g h1 with e | e | e <;> omega
    · rcases f2 g h2 with e | e | e <;> omega)
  clear d1 d2 d3 d4 d5 d6
  go_wp2
  go_loopw [17] (fun iv wr => ∃ i : Nat, i ≤ n ∧ iv = .int .i64 i ∧ Hid (Tp w D1 D2 H1 H2 i wr)) (fun iv _ => n - (intOf iv).toNat)
  case atStart => exact ⟨0, by omega, rfl, HTP.out⟩
  case round =>
    obtain ⟨i, hi, rfl, HI⟩ := hrel
    by_cases hlt : i < n
    · have hil : i < l.length := by have := HN.out; omega
      obtain ⟨g, o, rfl, hg, hc, hok⟩ := HT.out i hil
      obtain ⟨z, hz⟩ : ∃ z, l[i] = z := ⟨_, rfl⟩
      rw [hz] at hc hok
      have hb := HI.out.be
      have hcw : ∀ j, j < 11 → wr.cell? ⟨g, o + i * 11 + j, none⟩ = (#[.int .i64 z.kd, .bool z.ot, .int .u64 z.d.sq, .int .i64 z.d.kd, .int .i64 z.d.sd, .int .i64 z.d.pr, .int .u64 z.d.qt, .int .i64 z.d.ct, .int .u64 z.ps, .slice z.b1 z.M1.length z.k1, .slice z.b2 z.M2.length z.k2] : Array Value)[j]? := fun j hj => (hb.cell (p := ⟨g, o + i * 11 + j, none⟩) hg).trans (hc j hj)
      have i0 : (0 : Int) ≤ (i : Int) := by omega
      have i1 : (i : Int) < (n : Int) := by omega
      obtain ⟨u1, hu1⟩ : ∃ k, z.M1.length = k := ⟨_, rfl⟩
      obtain ⟨u2, hu2⟩ : ∃ k, z.M2.length = k := ⟨_, rfl⟩
      have g0 := hcw 0 (by omega)
      have g1 := hcw 1 (by omega)
      have g2 := hcw 2 (by omega)
      have g3 := hcw 3 (by omega)
      have g4 := hcw 4 (by omega)
      have g5 := hcw 5 (by omega)
      have g6 := hcw 6 (by omega)
      have g7 := hcw 7 (by omega)
      have g8 := hcw 8 (by omega)
      have g9 := hcw 9 (by omega)
      have g10 := hcw 10 (by omega)
      simp only [Nat.add_zero, hu1, hu2] at g0 g1 g2 g3 g4 g5 g6 g7 g8 g9 g10
      have CS1 := hid (HI.out.step1 hh1 (by have := HM.out; omega) z hok)
      have CS2 := hid (HI.out.step2 hh2 (by have := HM.out; omega) z hok)
      rw [hu1, hu2] at CS1 CS2
      clear hc hok hz hcw hu1 hu2 hb
      cases hot : z.ot with
      | false =>
        rw [hot] at CS1 g1
        go_wp2_with (first | (go_at_call 19; (with_reducible refine (CS1.out).mono ?_); rintro e V1 ⟨rfl, HV1⟩; have CT := hid (HV1.out.tells1 hh1)) | (go_at_call 20; (with_reducible refine (CT.out).mono ?_); rintro e V2 ⟨rfl, HV2⟩))
        go_roundw
        case rel => exact ⟨i + 1, by omega, by go_num, HV2.out⟩
        case measure => simp [intOf]; omega
      | true =>
        rw [hot] at CS2 g1
        go_wp2_with (first | (go_at_call 19; (with_reducible refine (CS2.out).mono ?_); rintro e V1 ⟨rfl, HV1⟩; have CT := hid (HV1.out.tells2 hh2)) | (go_at_call 20; (with_reducible refine (CT.out).mono ?_); rintro e V2 ⟨rfl, HV2⟩))
        go_roundw
        case rel => exact ⟨i + 1, by omega, by go_num, HV2.out⟩
        case measure => simp [intOf]; omega
    · have CT1 := hid (HI.out.tells1 hh1)
      go_wp2_with (first | (go_at_call 20; (with_reducible refine (CT1.out).mono ?_); rintro e V1 ⟨rfl, HV1⟩; have CT2 := hid (HV1.out.tells2 hh2)) | (go_at_call 20; (with_reducible refine (CT2.out).mono ?_); rintro e V2 ⟨rfl, HV2⟩))
      go_ret
      exact ⟨rfl, HV2.out.be⟩
theorem takes_walk (hold other : Int) (q : Option Addr) (cap : Nat) (l : List Ov) (w : World) (hT : Oz w q l) (hm : l.length ≤ maxLen) :
    Calls Try.prog 4 #[.int .i64 hold, .int .i64 other, .slice q l.length cap] w fun e w' => e = .returned (.bool true) ∧ Below w.heap.size w w' := by
  by_cases h1 : 0 ≤ hold ∧ hold ≤ 1024
  · obtain ⟨H1, rfl⟩ := Int.eq_ofNat_of_zero_le h1.1
    by_cases h2 : 0 ≤ other ∧ other ≤ 1024
    · obtain ⟨H2, rfl⟩ := Int.eq_ofNat_of_zero_le h2.1
      exact takes_yy H1 (by omega) H2 (by omega) q cap l w hT hm
    · exact takes_yn H1 (by omega) other h2 q _ cap w
  · by_cases h2 : 0 ≤ other ∧ other ≤ 1024
    · obtain ⟨H2, rfl⟩ := Int.eq_ofNat_of_zero_le h2.1
      exact takes_ny hold h1 H2 (by omega) q _ cap w
    · exact takes_nn hold h1 other h2 q _ cap w
end Go.Proofs.Ytiphgfghdbmlcaa
