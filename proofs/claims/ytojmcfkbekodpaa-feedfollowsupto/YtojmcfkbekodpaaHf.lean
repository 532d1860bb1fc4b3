/-
  FoC
-/
import Derived.Test.YtojmcfkbekodpaaHb
import Derived.Test.YtojmcfkbekodpaaHe
import Derived.Test.YtojmcfkbekodpaaShE
namespace Go.Proofs.Ytojmcfkbekodpaa
open Go.RowKit Go.Deep Go.Shelf
set_option linter.unusedVariables false
set_option linter.unusedSimpArgs false
set_option maxHeartbeats 1000000
set_option maxRecDepth 100000
/-- a subscriber, and which blocks are its own. -/
structure Sq (U : World) (S M nm hold : Nat) (s : Fd.Ss) (F : Nat → Prop) : Prop where
  ex : ∃ p1 c1 p2 c2, Fd.Su U S M nm hold s p1 c1 p2 c2 ∧ ∀ g, F g ↔ (g = S ∨ g = M ∨ Fd.OfP p1 g ∨ Fd.OfP p2 g)
  sg : Fd.Sg hold s
theorem Sq.lt {U : World} {S M nm hold : Nat} {s : Fd.Ss} {F : Nat → Prop} (h : Sq U S M nm hold s F) {g : Nat} (hg : F g) : g < U.heap.size := by
  obtain ⟨p1, c1, p2, c2, hs, hF⟩ := h.ex
  rcases (hF g).1 hg with rfl | rfl | h1 | h1
  · exact Fd.row_lt hs.sb.row
  · exact hs.sb.hm.lt
  · exact hs.lt.1 g h1
  · exact hs.lt.2 g h1
theorem Sq.kept {U V : World} {S M nm hold : Nat} {s : Fd.Ss} {F K : Nat → Prop} (h : Sq U S M nm hold s F) (hk : Kp K U V) (hd : ∀ g, F g → ¬ K g) : Sq V S M nm hold s F := by
  obtain ⟨p1, c1, p2, c2, hs, hF⟩ := h.ex
  exact ⟨⟨p1, c1, p2, c2, ⟨hs.sb.kept hk.fd (hd _ ((hF _).2 (.inl rfl))) (hd _ ((hF _).2 (.inr (.inl rfl)))) (fun g hg => hd g ((hF g).2 (.inr (.inr (.inl hg))))) (fun g hg => hd g ((hF g).2 (.inr (.inr (.inr hg))))), hs.ap⟩, hF⟩, h.sg⟩
theorem Sq.on {U V : World} {S M nm hold : Nat} {s : Fd.Ss} {F : Nat → Prop} (h : Sq U S M nm hold s F) (hb : Below U.heap.size U V) : Sq V S M nm hold s F := h.kept (Kp.of (fun _ => False) hb) (fun _ _ h => h)
def Ss0 : Fd.Ss := ⟨0, 0, [], [], [], Fd.dm0⟩
theorem sg0 (hold : Nat) : Fd.Sg hold Ss0 := ⟨by simp [Ss0], by simp [Ss0], Fd.Lok.nil _, Fd.Lok.nil _, by simp [Ss0], by simp [Ss0], by simp [Ss0], .inl rfl⟩
theorem sq_new (hold : Nat) (hh : hold ≤ 1024) (w : World) : Calls Try.prog 16 #[.int .i64 hold] w fun e w' => ∃ S M F, e = .returned (.tuple #[.pointer (some ⟨S, 0, none⟩), .int .i64 0]) ∧ Sq w' S M 0 hold Ss0 F ∧ (∀ g, F g → w.heap.size ≤ g) ∧ Below w.heap.size w w' := by
  refine (Fd.newS_ok hold hh w).mono ?_
  rintro e w' ⟨S, M, rfl, h1, h2, h3, h4⟩
  refine ⟨S, M, fun g => g = S ∨ g = M, rfl, ⟨⟨none, 0, none, 0, ⟨h1, fun g hg => by cases hg⟩, fun g => ?_⟩, sg0 hold⟩, fun g hg => ?_, h4⟩
  · constructor
    · rintro (h | h)
      · exact .inl h
      · exact .inr (.inl h)
    · rintro (h | h | h | h)
      · exact .inl h
      · exact .inr h
      · cases h
      · cases h
  · rcases hg with rfl | rfl
    · exact h2
    · exact h3
/-- behind a call on it. -/
def Sn (U : World) (S M nm hold : Nat) (s : Fd.Ss) (F : Nat → Prop) (w' : World) : Prop := ∃ F', Sq w' S M nm hold s F' ∧ Kp F U w' ∧ ∀ g, F' g → F g ∨ U.heap.size ≤ g
theorem bhd_sn {U : World} {S M nm nm' hold : Nat} {s s' : Fd.Ss} {F : Nat → Prop} {p1 p2 : Option Addr} {w' : World} (hF : ∀ g, F g ↔ (g = S ∨ g = M ∨ Fd.OfP p1 g ∨ Fd.OfP p2 g)) (hg : Fd.Sg hold s') (h : Fd.Bhd U S M nm' hold s' p1 p2 w') : Sn U S M nm' hold s' F w' := by
  obtain ⟨q1, e1, q2, e2, h1, h2, h3, h4⟩ := h
  refine ⟨fun g => g = S ∨ g = M ∨ Fd.OfP q1 g ∨ Fd.OfP q2 g, ⟨⟨q1, e1, q2, e2, h1, fun g => Iff.rfl⟩, hg⟩, (kp_of h2).mono (fun g _ hh => (hF g).2 hh), fun g hh => ?_⟩
  rcases hh with rfl | rfl | hh | hh
  · exact .inl ((hF _).2 (.inl rfl))
  · exact .inl ((hF _).2 (.inr (.inl rfl)))
  · rcases h3 g hh with h | h
    · exact .inl ((hF g).2 (.inr (.inr (.inl h))))
    · exact .inr h
  · rcases h4 g hh with h | h
    · exact .inl ((hF g).2 (.inr (.inr (.inr h))))
    · exact .inr h
theorem sq_take {U : World} {S M nm hold : Nat} {s : Fd.Ss} {F : Nat → Prop} (h : Sq U S M nm hold s F) (d : Fd.Dm) (hq : 0 ≤ d.sq ∧ d.sq < 18446744073709551616) (hn : nm < maxLen) :
    Calls Try.prog 17 #[.pointer (some ⟨S, 0, none⟩), .agg #[.int .u64 d.sq, .int .i64 d.kd, .int .i64 d.sd, .int .i64 d.pr, .int .u64 d.qt, .int .i64 d.ct]] U fun e w' => e = .returned (.int .i64 (Fd.tkE s d)) ∧ ∃ nm', nm' ≤ nm + 1 ∧ Sn U S M nm' hold (Fd.tkS hold s d) F w' := by
  obtain ⟨p1, c1, p2, c2, hs, hF⟩ := h.ex
  refine (Fd.take_any hs h.sg d hq hn).mono ?_
  rintro e w' ⟨h1, nm', h2, h3⟩
  exact ⟨h1, nm', h2, bhd_sn (s := s) (nm := nm) hF (h.sg.tkS hq) h3⟩
theorem sq_recover {U : World} {S M nm hold : Nat} {s : Fd.Ss} {F : Nat → Prop} (h : Sq U S M nm hold s F) (ps : Int) (hps : 0 ≤ ps ∧ ps < 18446744073709551616) (b1 b2 : Option Addr) (d1 d2 : Nat) (m1 m2 : List Fd.Lv) (r1 : Fd.Rl U b1 d1 m1) (r2 : Fd.Rl U b2 d2 m2) :
    Calls Try.prog 18 #[.pointer (some ⟨S, 0, none⟩), .agg #[.int .u64 ps, .slice b1 m1.length d1, .slice b2 m2.length d2]] U fun e w' => e = .returned (.int .i64 (Fd.rcE s ps m1 m2)) ∧ Sn U S M nm hold (Fd.rcS s ps m1 m2) F w' := by
  obtain ⟨p1, c1, p2, c2, hs, hF⟩ := h.ex
  refine (Fd.recover_any hs h.sg ps hps b1 b2 d1 d2 m1 m2 r1 r2).mono ?_
  rintro e w' ⟨h1, h3⟩
  exact ⟨h1, bhd_sn (s := s) (nm := nm) hF (h.sg.rcS hps) h3⟩
theorem sq_good {U : World} {S M nm hold : Nat} {s : Fd.Ss} {F : Nat → Prop} (h : Sq U S M nm hold s F) : Calls Try.prog 19 #[.pointer (some ⟨S, 0, none⟩)] U fun e w' => e = .returned (.bool (decide (s.gr ≤ s.sq))) ∧ Below U.heap.size U w' := by
  obtain ⟨p1, c1, p2, c2, hs, hF⟩ := h.ex
  refine (Fd.good_any hs.sb).mono ?_
  rintro e w' ⟨h1, n, rfl⟩
  exact ⟨h1, bdrew _ _⟩
theorem sq_pic {U : World} {S M nm hold : Nat} {s : Fd.Ss} {F : Nat → Prop} (h : Sq U S M nm hold s F) : Calls Try.prog 21 #[.pointer (some ⟨S, 0, none⟩)] U fun e w' => ∃ q1 d1 q2 d2, e = .returned (.agg #[.int .u64 s.sq, .slice q1 s.l1.length d1, .slice q2 s.l2.length d2]) ∧ Fd.Rl w' q1 d1 s.l1 ∧ Fd.Rl w' q2 d2 s.l2 ∧ Below U.heap.size U w' := by
  obtain ⟨p1, c1, p2, c2, hs, hF⟩ := h.ex
  have n1 := h.sg.k1.len
  have n2 := h.sg.k2.len
  refine (Fd.pictureS_any S #[] s.sq p1 p2 c1 c2 s.l1 s.l2 U (Fd.row12 hs.sb.row).1 (Fd.row12 hs.sb.row).2.1 (Fd.row12 hs.sb.row).2.2.1 (Fd.row_lt hs.sb.row) hs.sb.o1.rl hs.sb.o2.rl (by omega) (by omega)).mono ?_
  rintro e w' ⟨q1, d1, q2, d2, h1, h2, h3, _, h5⟩
  exact ⟨q1, d1, q2, d2, h1, h2.rl, h3.rl, h5⟩
/-- two subscribers apart, above a place. -/
structure Tw (lo : Nat) (U : World) (S M nm hold : Nat) (s : Fd.Ss) (S' M' nm' hold' : Nat) (s' : Fd.Ss) : Prop where
  ex : ∃ F G, Sq U S M nm hold s F ∧ Sq U S' M' nm' hold' s' G ∧ (∀ g, F g → lo ≤ g ∧ ¬ G g) ∧ (∀ g, G g → lo ≤ g)
theorem Tw.on {lo : Nat} {U V : World} {S M nm hold : Nat} {s : Fd.Ss} {S' M' nm' hold' : Nat} {s' : Fd.Ss} (h : Tw lo U S M nm hold s S' M' nm' hold' s') (hb : Below U.heap.size U V) : Tw lo V S M nm hold s S' M' nm' hold' s' := by
  obtain ⟨F, G, h1, h2, h3, h4⟩ := h.ex
  exact ⟨F, G, h1.on hb, h2.on hb, h3, h4⟩
theorem Tw.swap {lo : Nat} {U : World} {S M nm hold : Nat} {s : Fd.Ss} {S' M' nm' hold' : Nat} {s' : Fd.Ss} (h : Tw lo U S M nm hold s S' M' nm' hold' s') : Tw lo U S' M' nm' hold' s' S M nm hold s := by
  obtain ⟨F, G, h1, h2, h3, h4⟩ := h.ex
  exact ⟨G, F, h2, h1, fun g hg => ⟨h4 g hg, fun hf => (h3 g hf).2 hg⟩, fun g hg => (h3 g hg).1⟩
theorem Tw.step {lo : Nat} {U V : World} {S M nm hold : Nat} {s : Fd.Ss} {S' M' nm' hold' : Nat} {s' : Fd.Ss} {F G : Nat → Prop} {nn : Nat} {z : Fd.Ss} (h1 : Sq U S M nm hold s F) (h2 : Sq U S' M' nm' hold' s' G) (h3 : ∀ g, F g → lo ≤ g ∧ ¬ G g) (h4 : ∀ g, G g → lo ≤ g) (hlo : lo ≤ U.heap.size) (h : Sn U S M nn hold z F V) : Tw lo V S M nn hold z S' M' nm' hold' s' ∧ Below lo U V := by
  obtain ⟨F', a, b, c⟩ := h
  refine ⟨⟨F', G, a, h2.kept b (fun g hg hf => (h3 g hf).2 hg), fun g hg => ?_, h4⟩, b.below hlo (fun g hg hf => by have := (h3 g hf).1; omega)⟩
  rcases c g hg with h | h
  · exact h3 g h
  · exact ⟨by omega, fun hG => by have := h2.lt hG; omega⟩
theorem tw_take {lo : Nat} {U : World} {S M nm hold : Nat} {s : Fd.Ss} {S' M' nm' hold' : Nat} {s' : Fd.Ss} (h : Tw lo U S M nm hold s S' M' nm' hold' s') (hlo : lo ≤ U.heap.size) (d : Fd.Dm) (hq : 0 ≤ d.sq ∧ d.sq < 18446744073709551616) (hn : nm < maxLen) :
    Calls Try.prog 17 #[.pointer (some ⟨S, 0, none⟩), .agg #[.int .u64 d.sq, .int .i64 d.kd, .int .i64 d.sd, .int .i64 d.pr, .int .u64 d.qt, .int .i64 d.ct]] U fun e w' => e = .returned (.int .i64 (Fd.tkE s d)) ∧ ∃ nn, nn ≤ nm + 1 ∧ Tw lo w' S M nn hold (Fd.tkS hold s d) S' M' nm' hold' s' ∧ Below lo U w' := by
  obtain ⟨F, G, h1, h2, h3, h4⟩ := h.ex
  refine (sq_take h1 d hq hn).mono ?_
  rintro e w' ⟨a, nn, b, c⟩
  have := Tw.step h1 h2 h3 h4 hlo c
  exact ⟨a, nn, b, this.1, this.2⟩
theorem tw_recover {lo : Nat} {U : World} {S M nm hold : Nat} {s : Fd.Ss} {S' M' nm' hold' : Nat} {s' : Fd.Ss} (h : Tw lo U S M nm hold s S' M' nm' hold' s') (hlo : lo ≤ U.heap.size) (ps : Int) (hps : 0 ≤ ps ∧ ps < 18446744073709551616) (b1 b2 : Option Addr) (d1 d2 : Nat) (m1 m2 : List Fd.Lv) (r1 : Fd.Rl U b1 d1 m1) (r2 : Fd.Rl U b2 d2 m2) :
    Calls Try.prog 18 #[.pointer (some ⟨S, 0, none⟩), .agg #[.int .u64 ps, .slice b1 m1.length d1, .slice b2 m2.length d2]] U fun e w' => e = .returned (.int .i64 (Fd.rcE s ps m1 m2)) ∧ Tw lo w' S M nm hold (Fd.rcS s ps m1 m2) S' M' nm' hold' s' ∧ Below lo U w' := by
  obtain ⟨F, G, h1, h2, h3, h4⟩ := h.ex
  refine (sq_recover h1 ps hps b1 b2 d1 d2 m1 m2 r1 r2).mono ?_
  rintro e w' ⟨a, c⟩
  have := Tw.step h1 h2 h3 h4 hlo c
  exact ⟨a, this.1, this.2⟩
theorem Tw.left {lo : Nat} {U : World} {S M nm hold : Nat} {s : Fd.Ss} {S' M' nm' hold' : Nat} {s' : Fd.Ss} (h : Tw lo U S M nm hold s S' M' nm' hold' s') : ∃ F, Sq U S M nm hold s F := by
  obtain ⟨F, G, h1, _⟩ := h.ex
  exact ⟨F, h1⟩
/-- who follows: what it shows is what the first n messages make. -/
def fol (D : List Fd.Dm) (n : Nat) (gr : Int) (la : Fd.Dm) : Fd.Ss := ⟨n, gr, fds 1 [] (D.take n), fds 2 [] (D.take n), [], la⟩
theorem fds_snoc {s : Int} {D : List Fd.Dm} {n : Nat} (h : n < D.length) : fds s [] (D.take (n + 1)) = Fd.dnS s D[n] (fds s [] (D.take n)) := by
  rw [← List.take_append_getElem h, fds_app]
  rfl
theorem fol_next {D : List Fd.Dm} {L : List (Int × List Fd.Lv × List Fd.Lv)} (t : Tl D L) {n : Nat} (hn : n < D.length) {gr : Int} {la : Fd.Dm} (hgr : gr ≤ n) (hold : Nat) : Fd.tkE (fol D n gr la) D[n] = 0 ∧ ∃ la', Fd.tkS hold (fol D n gr la) D[n] = fol D (n + 1) ((n + 1 : Nat) : Int) la' := by
  have hok := t.ok _ (List.getElem_mem hn)
  have hsq := t.num n hn
  have hno : ¬ (D[n].sq ≤ (fol D n gr la).sq ∨ Fd.hasN (fol D n gr la).L D[n].sq = true) := by
    rw [hsq]
    rintro (h | h)
    · have : ((n + 1 : Nat) : Int) ≤ (n : Int) := h
      omega
    · simp [fol, Fd.hasN] at h
  have hnx : D[n].sq = (fol D n gr la).sq + 1 := by rw [hsq]; show ((n + 1 : Nat) : Int) = (n : Int) + 1; omega
  constructor
  · unfold Fd.tkE
    rw [if_neg (by rw [hok]; decide), if_neg hno, if_pos hnx]
  · refine ⟨if D[n].kd = 2 then D[n] else la, ?_⟩
    unfold Fd.tkS
    rw [if_neg (by rw [hok]; decide), if_neg hno, if_pos hnx, Fd.goS_no (by simp [Fd.doS, fol, Fd.hasN])]
    unfold Fd.doS fol
    simp only
    rw [fds_snoc hn, fds_snoc hn, hsq, Int.max_eq_right (by omega)]
theorem fol_recover {D : List Fd.Dm} {k : Nat} {l1 l2 : List Fd.Lv} (h1 : Fd.Lok 1 l1) (h2 : Fd.Lok 2 l2) (e1 : fds 1 [] (D.take k) = l1) (e2 : fds 2 [] (D.take k) = l2) : Fd.rcE Ss0 (k : Int) l1 l2 = 0 ∧ Fd.rcS Ss0 (k : Int) l1 l2 = fol D k 0 Fd.dm0 := by
  have hl : (Fd.lok 1 l1 && Fd.lok 2 l2) = true := by rw [(Fd.lok_iff 1 l1).2 h1, (Fd.lok_iff 2 l2).2 h2]; rfl
  have hk : ¬ ((k : Int) < Ss0.sq) := by simp [Ss0]
  constructor
  · unfold Fd.rcE
    rw [if_neg (by rw [hl]; decide), if_neg hk]
  · unfold Fd.rcS
    rw [if_neg (by rw [hl]; decide), if_neg hk, Fd.goS_no (by simp [Ss0, Fd.hasN])]
    unfold fol
    rw [e1, e2]
    rfl
end Go.Proofs.Ytojmcfkbekodpaa
namespace Go.Proofs.Ytojmcfkbekodpaa
open Go.RowKit Go.Deep Go.Shelf
set_option linter.unusedVariables false
set_option linter.unusedSimpArgs false
def kap (L : List Pic) : Nat → Nat
  | 0 => 0
  | i + 1 => ((L[i]?).map (fun x => x.sq.toNat)).getD 0
theorem kap_succ {L : List Pic} {i : Nat} (h : i < L.length) : kap L (i + 1) = L[i].sq.toNat := by
  simp [kap, List.getElem?_eq_getElem h]
theorem tl_at {D : List Fd.Dm} {L : List Pic} (t : Tl D (L.map Pic.pl)) {i : Nat} (h : i < L.length) : L[i].sq = (kap L (i + 1) : Int) ∧ kap L (i + 1) ≤ D.length ∧ kap L i ≤ kap L (i + 1) ∧ fds 1 [] (D.take (kap L (i + 1))) = L[i].l1 ∧ fds 2 [] (D.take (kap L (i + 1))) = L[i].l2 ∧ Fd.Lok 1 L[i].l1 ∧ Fd.Lok 2 L[i].l2 := by
  have hm : Pic.pl L[i] ∈ L.map Pic.pl := List.mem_map.2 ⟨_, List.getElem_mem h, rfl⟩
  obtain ⟨k, h1, h2, h3, h4⟩ := t.pic _ hm
  have h2' : L[i].sq = (k : Int) := h2
  have hk : kap L (i + 1) = k := by rw [kap_succ h, h2']; simp
  have hl := t.lok _ hm
  rw [hk]
  refine ⟨h2', h1, ?_, h3, h4, hl.1, hl.2.1⟩
  cases i with
  | zero => exact Nat.zero_le _
  | succ j =>
    have hj : j < L.length := by omega
    have hmono := List.pairwise_iff_getElem.1 t.mono j (j + 1) (by rw [List.length_map]; exact hj) (by rw [List.length_map]; exact h) (by omega)
    rw [List.getElem_map, List.getElem_map] at hmono
    have hmono' : L[j].sq ≤ L[j + 1].sq := hmono
    rw [kap_succ hj, ← hk, kap_succ h]
    omega
theorem tl_end {D : List Fd.Dm} {L : List Pic} (t : Tl D (L.map Pic.pl)) (h : 0 < L.length) : kap L L.length = D.length := by
  have h1 := t.last (by rw [List.length_map]; exact h)
  rw [List.getElem_map] at h1
  have e : L.length = (L.length - 1) + 1 := by omega
  have h2 := kap_succ (L := L) (i := L.length - 1) (by omega)
  rw [e, h2]
  have h3 : (L[(L.map Pic.pl).length - 1]'(by rw [List.length_map]; omega)).sq = (D.length : Int) := h1
  have h4 : L[(L.map Pic.pl).length - 1]'(by rw [List.length_map]; omega) = L[L.length - 1] := by congr 1; rw [List.length_map]
  rw [h4] at h3
  rw [h3]
  simp
end Go.Proofs.Ytojmcfkbekodpaa
