/-
  Nothing false is ever shown; plain.
-/
import Derived.Test.YtojmcfkbekodpaaQf
import Derived.Test.YtojmcfkbekodpaaQa
import Derived.Test.YtojmcfkbekodpaaPu
namespace Go.Proofs.Ytojmcfkbekodpaa
open Go.RowKit Go.Deep Go.Shelf
set_option linter.unusedVariables false
set_option linter.unusedSimpArgs false
set_option maxHeartbeats 1000000
/-- what is shown is what the first messages make; what is held are messages. -/
structure Fi (D : List Fd.Dm) (s : Fd.Ss) : Prop where
  n : ∃ n : Nat, n ≤ D.length ∧ s.sq = (n : Int) ∧ s.l1 = fds 1 [] (D.take n) ∧ s.l2 = fds 2 [] (D.take n)
  held : ∀ d ∈ s.L, ∃ j, ∃ h : j < D.length, d = D[j]
  gr : s.gr ≤ (D.length : Int)
theorem fi0 (D : List Fd.Dm) : Fi D Ss0 := ⟨⟨0, Nat.zero_le _, rfl, rfl, rfl⟩, fun d hd => by simp [Ss0] at hd, by show (0 : Int) ≤ _; omega⟩
theorem Fi.doS {D : List Fd.Dm} {L : List (Int × List Fd.Lv × List Fd.Lv)} (t : Tl D L) {s : Fd.Ss} (h : Fi D s) {j : Nat} (hj : j < D.length) (hs : s.sq = (j : Int)) : Fi D (Fd.doS s D[j]) := by
  obtain ⟨n, h1, h2, h3, h4⟩ := h.n
  have hnj : n = j := by omega
  subst hnj
  refine ⟨⟨n + 1, by omega, t.num n hj, ?_, ?_⟩, h.held, h.gr⟩
  · show Fd.dnS 1 D[n] s.l1 = _
    rw [h3, fds_snoc hj]
  · show Fd.dnS 2 D[n] s.l2 = _
    rw [h4, fds_snoc hj]
theorem Fi.nxS {D : List Fd.Dm} {L : List (Int × List Fd.Lv × List Fd.Lv)} (t : Tl D L) (hD : D.length ≤ 4611686018427387904) {s : Fd.Ss} (h : Fi D s) (hk : Fd.hasN s.L (Fd.uw (s.sq + 1)) = true) : Fi D (Fd.nxS s) := by
  obtain ⟨n, h1, h2, h3, h4⟩ := h.n
  obtain ⟨a, b⟩ := Fd.fnd_mem hk
  obtain ⟨j, hj, hd⟩ := h.held _ a
  have hu : Fd.uw (s.sq + 1) = (n : Int) + 1 := by
    rw [h2, Fd.uw_eq, Int.emod_eq_of_lt (by omega) (by omega)]
  have hsq := t.num j hj
  rw [← hd, b, hu] at hsq
  have hjn : (j : Int) = (n : Int) := by omega
  have hw : Fi D ⟨s.sq, s.gr, s.l1, s.l2, Fd.wo s.L (Fd.uw (s.sq + 1)), s.la⟩ := ⟨h.n, fun d hd => h.held d (List.mem_filter.1 hd).1, h.gr⟩
  unfold Fd.nxS
  rw [hd]
  exact hw.doS t hj (by show s.sq = (j : Int); omega)
theorem Fi.goS {D : List Fd.Dm} {L : List (Int × List Fd.Lv × List Fd.Lv)} (t : Tl D L) (hD : D.length ≤ 4611686018427387904) {s : Fd.Ss} (h : Fi D s) : Fi D (Fd.goS s) := by
  induction hn : s.L.length using Nat.strongRecOn generalizing s with
  | ind n ih =>
    subst hn
    cases hc : Fd.hasN s.L (Fd.uw (s.sq + 1)) with
    | false => rw [Fd.goS_no hc]; exact h
    | true => rw [Fd.goS_yes hc]; exact ih _ (Fd.wo_lt hc) (h.nxS t hD hc) rfl
theorem Fi.tkS {D : List Fd.Dm} {L : List (Int × List Fd.Lv × List Fd.Lv)} (t : Tl D L) (hD : D.length ≤ 4611686018427387904) {s : Fd.Ss} (h : Fi D s) {j : Nat} (hj : j < D.length) (hold : Nat) : Fi D (Fd.tkS hold s D[j]) := by
  have hsq := t.num j hj
  have hg : max s.gr D[j].sq ≤ (D.length : Int) := by have := h.gr; rw [hsq]; omega
  unfold Fd.tkS
  split
  · exact h
  · split
    · exact h
    · split
      · rename_i e
        refine Fi.goS t hD (Fi.doS t (s := ⟨s.sq, max s.gr D[j].sq, s.l1, s.l2, s.L, s.la⟩) ⟨h.n, h.held, hg⟩ hj ?_)
        show s.sq = (j : Int)
        rw [hsq] at e
        omega
      · refine ⟨h.n, fun d hd => ?_, hg⟩
        dsimp only at hd
        split at hd
        · rcases List.mem_append.1 hd with hd | hd
          · exact h.held d hd
          · rw [List.mem_singleton] at hd
            exact ⟨j, hj, hd⟩
        · exact h.held d hd
theorem Fi.rcS {D : List Fd.Dm} {L : List (Int × List Fd.Lv × List Fd.Lv)} (t : Tl D L) (hD : D.length ≤ 4611686018427387904) {s : Fd.Ss} (h : Fi D s) {k : Nat} (hk : k ≤ D.length) {l1 l2 : List Fd.Lv} (e1 : fds 1 [] (D.take k) = l1) (e2 : fds 2 [] (D.take k) = l2) : Fi D (Fd.rcS s (k : Int) l1 l2) := by
  unfold Fd.rcS
  split
  · exact h
  · split
    · exact h
    · exact Fi.goS t hD ⟨⟨k, hk, rfl, e1.symm, e2.symm⟩, fun d hd => h.held d (List.mem_filter.1 hd).1, h.gr⟩
/-- behind the last picture. -/
theorem Fi.last {D : List Fd.Dm} {L : List (Int × List Fd.Lv × List Fd.Lv)} (t : Tl D L) {s : Fd.Ss} (h : Fi D s) {l1 l2 : List Fd.Lv} (k1 : Fd.Lok 1 l1) (k2 : Fd.Lok 2 l2) : Fd.rcE s (D.length : Int) l1 l2 = 0 ∧ Fd.rcS s (D.length : Int) l1 l2 = ⟨(D.length : Int), s.gr, l1, l2, [], s.la⟩ := by
  obtain ⟨n, h1, h2, h3, h4⟩ := h.n
  have hl : (Fd.lok 1 l1 && Fd.lok 2 l2) = true := by rw [(Fd.lok_iff 1 l1).2 k1, (Fd.lok_iff 2 l2).2 k2]; rfl
  have hk : ¬ ((D.length : Int) < s.sq) := by omega
  have hf : s.L.filter (fun d => decide ((D.length : Int) < d.sq)) = [] := by
    rw [List.filter_eq_nil_iff]
    intro d hd
    obtain ⟨j, hj, rfl⟩ := h.held d hd
    rw [t.num j hj]
    simp
    omega
  constructor
  · unfold Fd.rcE
    rw [if_neg (by rw [hl]; decide), if_neg hk]
  · unfold Fd.rcS
    rw [if_neg (by rw [hl]; decide), if_neg hk, hf, Fd.goS_no (by simp [Fd.hasN])]
end Go.Proofs.Ytojmcfkbekodpaa
namespace Go.Proofs.Ytojmcfkbekodpaa
open Go.RowKit Go.Deep Go.Shelf
set_option linter.unusedVariables false
set_option linter.unusedSimpArgs false
set_option maxHeartbeats 8000000
set_option maxRecDepth 100000
attribute [local go_sem ↓] Go.wp_at_zero Go.wp_at_succ
theorem fds_lok {s : Int} : ∀ (D : List Fd.Dm) (l : List Fd.Lv), Fd.Lok s l → (∀ m ∈ D, Fd.dOk m = true) → Fd.Lok s (fds s l D)
  | [], l, h, _ => h
  | m :: D, l, h, hk => fds_lok D _ (h.dnS (hk m List.mem_cons_self)) (fun x hx => hk x (List.mem_cons_of_mem _ hx))
theorem lo_kp {b g : Nat} {Y Y' : World} {p : Option Addr} {c : Nat} {l : List Fd.Lv} {cs : Array Value} (h : Fd.Lo b Y p c l) (hk : Kp (fun j => j = g) Y Y') (hr : Y.heap[g]? = some (.cells cs 49 (0, 0))) : Fd.Lo b Y' p c l :=
  h.kept hk.fd (fun j hj e => by
    obtain ⟨cu, hc⟩ := h.ty hj
    subst e
    rw [hr] at hc
    cases hc)
theorem done_any (d : Fd.Dm) (hd : Fd.dOk d = true) (sq : Int) (p1 p2 : Option Addr) (c1 c2 : Nat) (l1 l2 : List Fd.Lv) (w : World) (h1 : Fd.Lo 0 w p1 c1 l1) (h2 : Fd.Lo 0 w p2 c2 l2) (b1 : l1.length ≤ 262144) (b2 : l2.length ≤ 262144) :
    Calls Try.prog 43 #[.agg #[.int .u64 sq, .slice p1 l1.length c1, .slice p2 l2.length c2], .agg #[.int .u64 d.sq, .int .i64 d.kd, .int .i64 d.sd, .int .i64 d.pr, .int .u64 d.qt, .int .i64 d.ct]] w fun e w' => ∃ q1 e1 q2 e2, e = .returned (.agg #[.int .u64 d.sq, .slice q1 (Fd.dnS 1 d l1).length e1, .slice q2 (Fd.dnS 2 d l2).length e2]) ∧ Fd.Lo 0 w' q1 e1 (Fd.dnS 1 d l1) ∧ Fd.Lo 0 w' q2 e2 (Fd.dnS 2 d l2) ∧ Below w.heap.size w w' := by
  have sd : ∀ {w' : World} {p : Option Addr} {c : Nat} {l : List Fd.Lv} {q : Option Addr} {e : Nat} {l' : List Fd.Lv}, Fd.Lo 0 w p c l → Below w.heap.size w w' → Fd.Sd w w' p c l q e l' → Fd.Lo 0 w' q e l' := fun h hb hs => by
    rcases hs with ⟨rfl, rfl, rfl⟩ | hs
    · exact h.on hb
    · exact hs.base (Nat.zero_le _)
  have hk := (Fd.dOk_iff d).1 hd
  rcases hk.2.2.2 with ⟨k1, _⟩ | ⟨k2, _⟩
  · rcases hk.2.1 with s1 | s2
    · have e1 : Fd.dnS 1 d l1 = Fd.dnl d.sd (Fd.lvD d) (d.ct == 0) l1 := by unfold Fd.dnS; rw [if_pos ⟨k1, s1⟩, s1]
      have e2 : Fd.dnS 2 d l2 = l2 := dnS_off (fun h => by have := h.2; omega)
      rw [e1, e2]
      refine (Fd.rDone_b d k1 s1 sq p1 p2 c1 c2 l1 l2 w h1.rl h2.rl b1 b2).mono ?_
      rintro e w' ⟨q1, a1, q2, a2, x1, x2, x3, x4, x5, x6⟩
      exact ⟨q1, a1, q2, a2, x1, sd h1 x6 x4, sd h2 x6 x5, x6⟩
    · have e1 : Fd.dnS 1 d l1 = l1 := dnS_off (fun h => by have := h.2; omega)
      have e2 : Fd.dnS 2 d l2 = Fd.dnl d.sd (Fd.lvD d) (d.ct == 0) l2 := by unfold Fd.dnS; rw [if_pos ⟨k1, s2⟩, s2]
      rw [e1, e2]
      refine (Fd.rDone_s d k1 s2 sq p1 p2 c1 c2 l1 l2 w h1.rl h2.rl b1 b2).mono ?_
      rintro e w' ⟨q1, a1, q2, a2, x1, x2, x3, x4, x5, x6⟩
      exact ⟨q1, a1, q2, a2, x1, sd h1 x6 x4, sd h2 x6 x5, x6⟩
  · have e1 : Fd.dnS 1 d l1 = l1 := dnS_off (fun h => by have := h.1; omega)
    have e2 : Fd.dnS 2 d l2 = l2 := dnS_off (fun h => by have := h.1; omega)
    rw [e1, e2]
    refine (Fd.rDone_t d k2 sq p1 p2 c1 c2 l1 l2 w h1.rl h2.rl b1 b2).mono ?_
    rintro e w' ⟨q1, a1, q2, a2, x1, x2, x3, x4, x5, x6⟩
    exact ⟨q1, a1, q2, a2, x1, sd h1 x6 x4, sd h2 x6 x5, x6⟩
theorem fold_any {D : List Fd.Dm} {L : List (Int × List Fd.Lv × List Fd.Lv)} (t : Tl D L) (b : Nat) (dq : Option Addr) (dc : Nat) (n : Nat) (hn : n ≤ D.length) (hD : D.length ≤ 4611686018427387904) (w : World) (h : Fd.Dw b w dq dc D) :
    Calls Try.prog 22 #[.slice dq D.length dc, .int .u64 n] w fun e w' => ∃ q1 e1 q2 e2, e = .returned (.agg #[.int .u64 n, .slice q1 (fds 1 [] (D.take n)).length e1, .slice q2 (fds 2 [] (D.take n)).length e2]) ∧ Fd.Rl w' q1 e1 (fds 1 [] (D.take n)) ∧ Fd.Rl w' q2 e2 (fds 2 [] (D.take n)) ∧ Below w.heap.size w w' := by
  obtain ⟨R, hR⟩ : ∃ R, w.heap.size = R := ⟨_, rfl⟩
  obtain ⟨Wa, hWa⟩ : ∃ W, w.alloc (.cells #[.int .u64 0, .slice none 0 0, .slice none 0 0] 49) = W := ⟨_, rfl⟩
  obtain ⟨W, hW⟩ : ∃ W, Wa.alloc (.cells #[.int .u64 0, .slice none 0 0, .slice none 0 0] 49) = W := ⟨_, rfl⟩
  have hBa : Below w.heap.size w Wa := by rw [← hWa]; exact ball _ _
  have hsz : Wa.heap.size = R + 1 := by rw [← hWa, ← hR]; exact Array.size_push _
  have hBb : Below Wa.heap.size Wa W := by rw [← hW]; exact ball _ _
  have hB := btr hBa hBb
  have hr0 : W.heap[R]? = some (.cells #[.int .u64 0, .slice none 0 0, .slice none 0 0] 49 (0, 0)) := row_on (by rw [← hWa, ← hR]; exact World.alloc_heap_new _ _) hBb
  have hr1 : W.heap[R + 1]? = some (.cells #[.int .u64 0, .slice none 0 0, .slice none 0 0] 49 (0, 0)) := by rw [← hW, ← hsz]; exact World.alloc_heap_new _ _
  have HR0 := hid hr0
  have HR1 := hid hr1
  have HB := hid hB
  have HWa := hid hWa
  have HW := hid hW
  have HRR := hid hR
  have HSZ := hid hsz
  have HT := hid t
  have HDW := hid (h.on hB)
  obtain ⟨nd, hnd⟩ : ∃ m, D.length = m := ⟨_, rfl⟩
  have HND := hid hnd
  rw [hnd] at hn hD ⊢
  clear hWa hW hBa hsz hBb hB hr0 hr1 t h hnd hR
  go_enter Try.func22, Try.ntmps22
  go_upto_region 1 with fail
  rw [HWa.out, HRR.out]
  go_upto_region 2 with fail
  rw [HW.out, HSZ.out]
  clear HWa HW HSZ
  go_wp2
  go_loopw [6] (fun iv wr => ∃ (i : Nat) (q1 : Option Addr) (e1 : Nat) (q2 : Option Addr) (e2 : Nat), i ≤ n ∧ iv = .int .i64 i ∧ Hid (wr.heap[R]? = some (.cells #[.int .u64 0, .slice none 0 0, .slice none 0 0] 49 (0, 0))) ∧ Hid (wr.heap[R + 1]? = some (.cells #[.int .u64 i, .slice q1 (fds 1 [] (D.take i)).length e1, .slice q2 (fds 2 [] (D.take i)).length e2] 49 (0, 0))) ∧ Hid (Fd.Lo 0 wr q1 e1 (fds 1 [] (D.take i)) ∧ Fd.Lo 0 wr q2 e2 (fds 2 [] (D.take i))) ∧ Hid (Fd.Dw b wr dq dc D) ∧ Hid (Below w.heap.size w wr)) (fun iv _ => n - (intOf iv).toNat)
  case atStart => exact ⟨0, none, 0, none, 0, Nat.zero_le _, rfl, HR0, HR1, hid ⟨Fd.Lo.nil0 _ _, Fd.Lo.nil0 _ _⟩, HDW, HB⟩
  case round =>
    obtain ⟨i, q1, e1, q2, e2, hin, rfl, A0, A1, AL, AD, AB⟩ := hrel
    have x1 : IntKind.u64.wrap (i : Int) = (i : Int) := by rw [IntKind.wrap_u64]; omega
    by_cases hlt : i < n
    · have hiD : i < D.length := by rw [HND.out]; omega
      have hind : i < nd := by omega
      obtain ⟨g, hg, _, c0, c1, c2, c3, c4, c5⟩ := Fd.Dw.cells AD.out hiD
      have HDC := hid (fun (U : World) (hU : Below wr.heap.size wr U) => Fd.Dw.cells (AD.out.on hU) hiD)
      have hok := HT.out.ok _ (List.getElem_mem hiD)
      have hsq := HT.out.num i hiD
      have hs1 := fds_snoc (s := 1) hiD
      have hs2 := fds_snoc (s := 2) hiD
      have b1 := (fds_lok (s := 1) (D.take i) [] (Fd.Lok.nil _) (fun m hm => HT.out.ok m (List.mem_of_mem_take hm))).len
      have b2 := (fds_lok (s := 2) (D.take i) [] (Fd.Lok.nil _) (fun m hm => HT.out.ok m (List.mem_of_mem_take hm))).len
      obtain ⟨y, hy⟩ : ∃ y, D[i] = y := ⟨_, rfl⟩
      rw [hy] at c0 c1 c2 c3 c4 c5 hok hsq hs1 hs2 HDC
      obtain ⟨l1, hl1⟩ : ∃ l, fds 1 [] (D.take i) = l := ⟨_, rfl⟩
      obtain ⟨l2, hl2⟩ : ∃ l, fds 2 [] (D.take i) = l := ⟨_, rfl⟩
      rw [hl1] at hs1 b1 A1 AL
      rw [hl2] at hs2 b2 A1 AL
      obtain ⟨n1, hn1⟩ : ∃ l, l1.length = l := ⟨_, rfl⟩
      obtain ⟨n2, hn2⟩ : ∃ l, l2.length = l := ⟨_, rfl⟩
      obtain ⟨N1, hN1⟩ : ∃ l, (Fd.dnS 1 y l1).length = l := ⟨_, rfl⟩
      obtain ⟨N2, hN2⟩ : ∃ l, (Fd.dnS 2 y l2).length = l := ⟨_, rfl⟩
      rw [hn1, hn2] at A1
      have CD := hid (show ∀ U, Below wr.heap.size wr U → Calls Try.prog 43 #[.agg #[.int .u64 i, .slice q1 n1 e1, .slice q2 n2 e2], .agg #[.int .u64 y.sq, .int .i64 y.kd, .int .i64 y.sd, .int .i64 y.pr, .int .u64 y.qt, .int .i64 y.ct]] U fun e w' => ∃ p1 d1 p2 d2, e = .returned (.agg #[.int .u64 y.sq, .slice p1 N1 d1, .slice p2 N2 d2]) ∧ Hid (Fd.Lo 0 w' p1 d1 (Fd.dnS 1 y l1)) ∧ Hid (Fd.Lo 0 w' p2 d2 (Fd.dnS 2 y l2)) ∧ Hid (Below U.heap.size U w') from fun U hU => by
        have h := done_any y hok i q1 q2 e1 e2 l1 l2 U (AL.out.1.on hU) (AL.out.2.on hU) b1 b2
        rw [hn1, hn2, hN1, hN2] at h
        exact h)
      have HYY := hid hy
      have HSQ := hid hsq
      have HS1 := hid hs1
      have HS2 := hid hs2
      have HN1 := hid hN1
      have HN2 := hid hN2
      clear hy hl1 hl2 hn1 hn2 hN1 hN2 hok hsq hs1 hs2 b1 b2 AL
      subst hg
      have i0' : (0 : Int) ≤ (i : Int) := by omega
      have i1 : (i : Int) < (nd : Int) := by omega
      go_upto_region 5 with fail
      obtain ⟨V0, hV0⟩ : ∃ U, wr.drew = U := ⟨_, rfl⟩
      have DV0 := hid (show Below wr.heap.size wr V0 from by rw [← hV0]; exact bdrew1 _)
      have HS := hid (show ∀ U, Below wr.heap.size wr U → U.cell? ⟨g, i * 6, none⟩ = some (.int .u64 y.sq) ∧ U.cell? ⟨g, i * 6 + 1, none⟩ = some (.int .i64 y.kd) ∧ U.cell? ⟨g, i * 6 + 2, none⟩ = some (.int .i64 y.sd) ∧ U.cell? ⟨g, i * 6 + 3, none⟩ = some (.int .i64 y.pr) ∧ U.cell? ⟨g, i * 6 + 4, none⟩ = some (.int .u64 y.qt) ∧ U.cell? ⟨g, i * 6 + 5, none⟩ = some (.int .i64 y.ct) from fun U hU => by
        obtain ⟨g', hg', _, h0⟩ := HDC.out U hU
        cases hg'
        exact h0)
      clear c0 c1 c2 c3 c4 c5
      refine wp_region_held_drew (S := fun U => U.cell? ⟨g, i * 6, none⟩ = some (.int .u64 y.sq) ∧ U.cell? ⟨g, i * 6 + 1, none⟩ = some (.int .i64 y.kd) ∧ U.cell? ⟨g, i * 6 + 2, none⟩ = some (.int .i64 y.sd) ∧ U.cell? ⟨g, i * 6 + 3, none⟩ = some (.int .i64 y.pr) ∧ U.cell? ⟨g, i * 6 + 4, none⟩ = some (.int .u64 y.qt) ∧ U.cell? ⟨g, i * 6 + 5, none⟩ = some (.int .i64 y.ct)) (by kernel_rfl) ?_ (fun hHeld => ?_)
      · (try dsimp only); rw [hV0]; exact HS.out _ DV0.out
      rw [hV0] at hHeld ⊢
      clear hV0
      refine' wpAnyH_take (i := 1) (oi := _) (v := _) rfl (by kernel_rfl) (by kernel_rfl) (by kernel_rfl) (fun _ _ _ h => h) (Or.inl ⟨by kernel_rfl, ?hyq1⟩) (by assumption) ?restq1
      case hyq1 => (intro w hSw; (try dsimp only at hSw); go_simp; try (with_reducible rfl))
      try simp only [List.getElem_toArray, List.getElem_cons_succ, List.getElem_cons_zero, Act.put, List.setIfInBounds_toArray, List.set_cons_zero, List.set_cons_succ]
      refine' wpAnyH_take (i := 2) (oi := _) (v := _) rfl (by kernel_rfl) (by kernel_rfl) (by kernel_rfl) (fun _ _ _ h => h) (Or.inl ⟨by kernel_rfl, ?hyq2⟩) (by assumption) ?restq2
      case hyq2 => (intro w hSw; (try dsimp only at hSw); go_simp; try (with_reducible rfl))
      try simp only [List.getElem_toArray, List.getElem_cons_succ, List.getElem_cons_zero, Act.put, List.setIfInBounds_toArray, List.set_cons_zero, List.set_cons_succ]
      refine' wpAnyH_take (i := 3) (oi := _) (v := _) rfl (by kernel_rfl) (by kernel_rfl) (by kernel_rfl) (fun _ _ _ h => h) (Or.inl ⟨by kernel_rfl, ?hyq3⟩) (by assumption) ?restq3
      case hyq3 => (intro w hSw; (try dsimp only at hSw); go_simp; try (with_reducible rfl))
      try simp only [List.getElem_toArray, List.getElem_cons_succ, List.getElem_cons_zero, Act.put, List.setIfInBounds_toArray, List.set_cons_zero, List.set_cons_succ]
      refine' wpAnyH_take (i := 4) (oi := _) (v := _) rfl (by kernel_rfl) (by kernel_rfl) (by kernel_rfl) (fun _ _ _ h => h) (Or.inl ⟨by kernel_rfl, ?hyq4⟩) (by assumption) ?restq4
      case hyq4 => (intro w hSw; (try dsimp only at hSw); go_simp; try (with_reducible rfl))
      try simp only [List.getElem_toArray, List.getElem_cons_succ, List.getElem_cons_zero, Act.put, List.setIfInBounds_toArray, List.set_cons_zero, List.set_cons_succ]
      refine wpAnyH_ready (rs := [0]) (by kernel_rfl) (by simp) ?_
      refine (AllReadyH.cons (o := _) rfl (fun K hK => ?_) AllReadyH.nil)
      have v0 := row_cell (row_on A1.out DV0.out) 0
      have v1 := row_cell (row_on A1.out DV0.out) 1
      have v2 := row_cell (row_on A1.out DV0.out) 2
      simp only [List.getElem?_toArray, List.getElem?_cons_succ, List.getElem?_cons_zero] at v0 v1 v2
      go_simp
      clear v0 v1 v2
      refine hK.out _ _ ?_ (fun hHeld => ?_)
      · (try dsimp only); exact HS.out _ DV0.out
      clear hK K
      try simp only [List.getElem_toArray, List.getElem_cons_succ, List.getElem_cons_zero, Act.put, List.setIfInBounds_toArray, List.set_cons_zero, List.set_cons_succ]
      refine wpAnyH_ready (rs := [5]) (by kernel_rfl) (by simp) ?_
      refine (AllReadyH.cons (o := _) rfl (fun K hK => ?_) AllReadyH.nil)
      go_simp
      go_at_call 43
      with_reducible refine (CD.out V0 DV0.out).mono ?_
      rintro e Y1 ⟨p1, d1, p2, d2, rfl, R1, R2, B6⟩
      have DY1 := hid (btr DV0.out B6.out)
      (try go_wp2_with fail)
      refine hK.out _ _ ?_ (fun hHeld => ?_)
      · (try dsimp only); exact HS.out _ DY1.out
      clear hK K
      try simp only [List.getElem_toArray, List.getElem_cons_succ, List.getElem_cons_zero, Act.put, List.setIfInBounds_toArray, List.set_cons_zero, List.set_cons_succ]
      refine wpAnyH_ready (rs := [6]) (by kernel_rfl) (by simp) ?_
      refine (AllReadyH.cons (o := _) rfl (fun K hK => ?_) AllReadyH.nil)
      have hrow := row_on A1.out DY1.out
      refine Fd.step_store_row (by rfl) 49 (.tmp 5) (.tmp 24) (by rfl) (R + 1) #[.int .u64 y.sq, .slice p1 N1 d1, .slice p2 N2 d2] (by rfl) (by rfl) 49 _ hrow Fd.infoP (by rfl) (by simp [Value.oneCell']) ?_
      obtain ⟨Y2, hY2⟩ : ∃ Y, Y1.setRow (R + 1) #[.int .u64 y.sq, .slice p1 N1 d1, .slice p2 N2 d2] = Y := ⟨_, rfl⟩
      have KY := hid (show Kp (fun j => j = R + 1) Y1 Y2 from by rw [← hY2]; exact setRow_kp _ _ _)
      have AY := hid (show Y2.heap[R + 1]? = some (.cells #[.int .u64 y.sq, .slice p1 N1 d1, .slice p2 N2 d2] 49 (0, 0)) from by rw [← hY2]; exact setRow_heap Y1 (R + 1) _ _ 49 (0, 0) hrow)
      have HRY := hid hrow
      rw [hY2]
      clear hY2 hrow
      have DWY := hid (show Fd.Dw b Y2 (some ⟨g, 0, none⟩) dc D from Fd.own_same (AD.out.on DY1.out) (fun g' hg' => by
        obtain ⟨cu, hc⟩ := Fd.own_ty (AD.out.on DY1.out) hg'
        exact KY.out.obj g' (row_lt hc) (fun e => by subst e; rw [HRY.out] at hc; cases hc)))
      refine hK.out _ _ ?_ (fun hHeld => ?_)
      · (try dsimp only)
        obtain ⟨g', hg', _, h0⟩ := Fd.Dw.cells DWY.out (show i < D.length by rw [HND.out]; exact hind)
        cases hg'
        rw [HYY.out] at h0
        exact h0
      clear hK K
      try simp only [List.getElem_toArray, List.getElem_cons_succ, List.getElem_cons_zero, Act.put, List.setIfInBounds_toArray, List.set_cons_zero, List.set_cons_succ]
      refine wpAnyH_done (by kernel_rfl) ?_ _
      go_wp2
      go_roundw
      case rel => exact ⟨i + 1, p1, d1, p2, d2, by omega, by go_num, hid (KY.out.row (row_on A0.out DY1.out) (fun e => by omega)), (by rw [HS1.out, HS2.out, HN1.out, HN2.out, ← HSQ.out]; exact AY), hid (by rw [HS1.out, HS2.out]; exact ⟨lo_kp R1.out KY.out HRY.out, lo_kp R2.out KY.out HRY.out⟩), DWY, hid ((btr AB.out DY1.out).trans (KY.out.below (btr AB.out DY1.out).size (fun j hj e => by have := HRR.out; omega)))⟩
      case measure => simp [intOf]; omega
    · have hi5 : i = n := by omega
      subst hi5
      have y1 : decide ((i : Int) < (i : Int)) = false := by simp
      obtain ⟨l1, hl1⟩ : ∃ l, fds 1 [] (D.take i) = l := ⟨_, rfl⟩
      obtain ⟨l2, hl2⟩ : ∃ l, fds 2 [] (D.take i) = l := ⟨_, rfl⟩
      rw [hl1, hl2] at A1 AL
      obtain ⟨n1, hn1⟩ : ∃ l, l1.length = l := ⟨_, rfl⟩
      obtain ⟨n2, hn2⟩ : ∃ l, l2.length = l := ⟨_, rfl⟩
      rw [hn1, hn2] at A1
      have v0 := row_cell A1.out 0
      have v1 := row_cell A1.out 1
      have v2 := row_cell A1.out 2
      simp only [List.getElem?_toArray, List.getElem?_cons_succ, List.getElem?_cons_zero] at v0 v1 v2
      have HL1 := hid hl1
      have HL2 := hid hl2
      have HM1 := hid hn1
      have HM2 := hid hn2
      clear hl1 hl2 hn1 hn2
      by_cases hin2 : i < nd
      · have c1 : decide ((i : Int) < (nd : Int)) = true := by simp; omega
        have c2 : decide (i < nd) = true := by simp; omega
        go_upto_region 6 with fail
        go_wp2_with (refine wpList_store_row (by rfl) 49 (.tmp 4) (.tmp 25) (by rfl) R #[.int .u64 i, .slice q1 n1 e1, .slice q2 n2 e2] (by rfl) (by rfl) 49 _ A0.out Fd.infoP (by rfl) (by simp [Value.oneCell']) ?_)
        refine bodyPost_ret (results_cell_row (fn := Try.f22) Try.results22 _ _ R 49 #[.int .u64 i, .slice q1 n1 e1, .slice q2 n2 e2] (0, 0) _ (by rfl) (setRow_heap _ _ _ _ 49 (0, 0) A0.out) Try.underlying49 rfl Fd.infoP) rfl ⟨q1, e1, q2, e2, by rw [HL1.out, HL2.out, HM1.out, HM2.out], ?_, ?_, ?_⟩
        · rw [HL1.out]; exact (lo_kp AL.out.1 (setRow_kp _ R _) A0.out).rl
        · rw [HL2.out]; exact (lo_kp AL.out.2 (setRow_kp _ R _) A0.out).rl
        · exact AB.out.trans ((setRow_kp _ R _).below AB.out.size (fun j hj e => by have := HRR.out; omega))
      · have c1 : decide ((i : Int) < (nd : Int)) = false := by simp; omega
        have c2 : decide (i < nd) = false := by simp; omega
        go_upto_region 6 with fail
        go_wp2_with (refine wpList_store_row (by rfl) 49 (.tmp 4) (.tmp 25) (by rfl) R #[.int .u64 i, .slice q1 n1 e1, .slice q2 n2 e2] (by rfl) (by rfl) 49 _ A0.out Fd.infoP (by rfl) (by simp [Value.oneCell']) ?_)
        refine bodyPost_ret (results_cell_row (fn := Try.f22) Try.results22 _ _ R 49 #[.int .u64 i, .slice q1 n1 e1, .slice q2 n2 e2] (0, 0) _ (by rfl) (setRow_heap _ _ _ _ 49 (0, 0) A0.out) Try.underlying49 rfl Fd.infoP) rfl ⟨q1, e1, q2, e2, by rw [HL1.out, HL2.out, HM1.out, HM2.out], ?_, ?_, ?_⟩
        · rw [HL1.out]; exact (lo_kp AL.out.1 (setRow_kp _ R _) A0.out).rl
        · rw [HL2.out]; exact (lo_kp AL.out.2 (setRow_kp _ R _) A0.out).rl
        · exact AB.out.trans ((setRow_kp _ R _).below AB.out.size (fun j hj e => by have := HRR.out; omega))
end Go.Proofs.Ytojmcfkbekodpaa
namespace Go.Proofs.Ytojmcfkbekodpaa
open Go.RowKit Go.Deep Go.Shelf
set_option linter.unusedVariables false
set_option linter.unusedSimpArgs false
set_option maxHeartbeats 1000000
set_option maxRecDepth 100000
structure So (lo : Nat) (U : World) (S M nm hold : Nat) (s : Fd.Ss) : Prop where
  ex : ∃ F, Sq U S M nm hold s F ∧ ∀ g, F g → lo ≤ g
theorem So.on {lo : Nat} {U V : World} {S M nm hold : Nat} {s : Fd.Ss} (h : So lo U S M nm hold s) (hb : Below U.heap.size U V) : So lo V S M nm hold s := by
  obtain ⟨F, h1, h2⟩ := h.ex
  exact ⟨F, h1.on hb, h2⟩
theorem So.step {lo : Nat} {U V : World} {S M nm nn hold : Nat} {s z : Fd.Ss} {F : Nat → Prop} (h2 : ∀ g, F g → lo ≤ g) (hlo : lo ≤ U.heap.size) (h : Sn U S M nn hold z F V) : So lo V S M nn hold z ∧ Below lo U V := by
  obtain ⟨F', a, b, c⟩ := h
  refine ⟨⟨F', a, fun g hg => ?_⟩, b.below hlo (fun g hg hf => by have := h2 g hf; omega)⟩
  rcases c g hg with h | h
  · exact h2 g h
  · omega
theorem so_take {lo : Nat} {U : World} {S M nm hold : Nat} {s : Fd.Ss} (h : So lo U S M nm hold s) (hlo : lo ≤ U.heap.size) (d : Fd.Dm) (hq : 0 ≤ d.sq ∧ d.sq < 18446744073709551616) (hn : nm < maxLen) :
    Calls Try.prog 17 #[.pointer (some ⟨S, 0, none⟩), .agg #[.int .u64 d.sq, .int .i64 d.kd, .int .i64 d.sd, .int .i64 d.pr, .int .u64 d.qt, .int .i64 d.ct]] U fun e w' => e = .returned (.int .i64 (Fd.tkE s d)) ∧ ∃ nn, nn ≤ nm + 1 ∧ So lo w' S M nn hold (Fd.tkS hold s d) ∧ Below lo U w' := by
  obtain ⟨F, h1, h2⟩ := h.ex
  refine (sq_take h1 d hq hn).mono ?_
  rintro e w' ⟨a, nn, b, c⟩
  have := So.step (s := s) (nm := nm) h2 hlo c
  exact ⟨a, nn, b, this.1, this.2⟩
theorem so_recover {lo : Nat} {U : World} {S M nm hold : Nat} {s : Fd.Ss} (h : So lo U S M nm hold s) (hlo : lo ≤ U.heap.size) (ps : Int) (hps : 0 ≤ ps ∧ ps < 18446744073709551616) (b1 b2 : Option Addr) (d1 d2 : Nat) (m1 m2 : List Fd.Lv) (r1 : Fd.Rl U b1 d1 m1) (r2 : Fd.Rl U b2 d2 m2) :
    Calls Try.prog 18 #[.pointer (some ⟨S, 0, none⟩), .agg #[.int .u64 ps, .slice b1 m1.length d1, .slice b2 m2.length d2]] U fun e w' => e = .returned (.int .i64 (Fd.rcE s ps m1 m2)) ∧ So lo w' S M nm hold (Fd.rcS s ps m1 m2) ∧ Below lo U w' := by
  obtain ⟨F, h1, h2⟩ := h.ex
  refine (sq_recover h1 ps hps b1 b2 d1 d2 m1 m2 r1 r2).mono ?_
  rintro e w' ⟨a, c⟩
  have := So.step (s := s) (nm := nm) h2 hlo c
  exact ⟨a, this.1, this.2⟩
/-- numbers that came in. -/
def Vz (w : World) (q : Option Addr) (l : List Int) : Prop := ∀ i (h : i < l.length), ∃ b off, q = some ⟨b, off, none⟩ ∧ b < w.heap.size ∧ w.cell? ⟨b, off + i, none⟩ = some (.int .i64 l[i])
end Go.Proofs.Ytojmcfkbekodpaa
namespace Go.Proofs.Ytojmcfkbekodpaa
open Go.ChangeShapes Go.WideShapes Go.ChangeAt Go.RowKit Go.Joins Go.Deep
set_option linter.unusedVariables false
set_option maxRecDepth 100000
section
variable {H : Type} {enc : TypeId × Value → H} {W : World} {base b0 : Nat} {spare : Nat → Bool} {held : Bool} {r : Reach}
set_option maxRecDepth 100000 in
theorem open_vals {v : Value} {d : DataW H} {p : List MemPlace} (hv : Value.okWide Try.prog W r b0 66 v) (h : DataW.Trod enc Try.prog W base spare held 66 v d p) :
    ∃ q cap l, v = .slice q (l : List Int).length cap ∧ Vz W q l ∧ (l = [] ∨ ∃ elems rest, d = .slice elems rest ∧ l.length ≤ elems.length) ∧ l.length ≤ maxLen ∧ (∀ x ∈ l, -9223372036854775808 ≤ x ∧ x < 9223372036854775808) := by
  obtain ⟨a0, len0, cap0, rfl⟩ := okWide_slice (P := Try.prog) Try.underlying66 hv
  obtain ⟨fuel, hf⟩ := h
  rcases open_ints Try.underlying66 Try.underlying3 (by kernel_rfl) hf with ⟨hcs, _⟩ | ⟨x, l, c, zs, hcs, _, hl, hm, hz, hd, hcell, hwz⟩
  · simp [Value.cells] at hcs
    obtain ⟨rfl, rfl, rfl⟩ := hcs
    exact ⟨none, 0, [], rfl, fun i hi => by simp at hi, Or.inl rfl, by simp, by simp⟩
  · simp [Value.cells] at hcs
    obtain ⟨rfl, rfl, rfl⟩ := hcs
    have hz' : len0 ≤ zs.length := by
      have h9 : zs.length = if spare x.block = true then cap0 else len0 := by simpa using hz
      rw [h9]
      split <;> omega
    have hln : (zs.take len0).length = len0 := by simp; omega
    refine ⟨some x, cap0, zs.take len0, by rw [hln], ?_, Or.inr ⟨_, _, congrArg Prod.fst hd, by simp [lits]⟩, by omega, ?_⟩
    · intro i hi
      have hi' : i < len0 := by omega
      obtain ⟨b, off, spot⟩ := x
      have hc := hcell 0 (by omega)
      have hspot : spot = none := by simpa [Addr.add] using World.cell?_spot hc
      subst hspot
      have h2 := hcell i (by omega)
      rw [add_mid] at h2
      refine ⟨b, off, rfl, block_lt_of_cell h2, ?_⟩
      rw [h2]
      simp [List.getD, show i < zs.length by omega]
    · intro y hy
      have := hwz y (List.mem_of_mem_take hy)
      simp [Lit.wf, IntKind.min, IntKind.max, IntKind.signed, IntKind.bits] at this
      omega
end
theorem bulk_nums {H : Type} {d : DataW H} {l : List Int} (h : l = [] ∨ ∃ elems rest, d = .slice elems rest ∧ l.length ≤ elems.length) : l.length ≤ Rows.uptoBulk d := by
  rcases h with rfl | ⟨elems, rest, rfl, hl⟩
  · simp
  · have := all_len elems
    simp only [Rows.uptoBulk]
    omega
end Go.Proofs.Ytojmcfkbekodpaa
