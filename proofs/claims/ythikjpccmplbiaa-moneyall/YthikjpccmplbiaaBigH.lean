/-
  The document's times.
-/
import Derived.Test.YthikjpccmplbiaaBigG
import Derived.Deep.OwnRows
namespace Go.Proofs.Ythikjpccmplbiaa
open Go.RowKit Go.Deep BigM
set_option linter.unusedVariables false

theorem at0_set (l : List Int) (k : Nat) (d : Int) (hk : k < l.length) (j : Nat) : at0 (l.set k d) j = if j = k then d else at0 l j := by
  unfold at0
  rw [List.getElem?_set]
  by_cases h : k = j
  · subst h; simp [hk]
  · rw [if_neg h, if_neg (fun e => h e.symm)]
theorem val_set (l : List Int) (k : Nat) (d : Int) (hk : k < l.length) : val (l.set k d) = val l + pw k * (d - at0 l k) := by
  induction l generalizing k with
  | nil => simp at hk
  | cons x r ih =>
    cases k with
    | zero => simp [val, at0, pw_zero]; omega
    | succ k =>
      have hk' : k < r.length := by simpa using hk
      have := ih k hk'
      simp only [List.set_cons_succ, val, this, pw_succ]
      rw [Int.mul_add, ← Int.mul_assoc]
      simp [at0]; omega
theorem dig_set (l : List Int) (k : Nat) (d : Int) (hl : Dig l) (h0 : 0 ≤ d) (h1 : d < 4294967296) : Dig (l.set k d) := by
  intro x hx
  rcases List.mem_or_eq_of_mem_set hx with h | rfl
  · exact hl x h
  · exact ⟨h0, h1⟩
theorem dig_zeros (n : Nat) : Dig (List.replicate n 0) := by
  intro d hd; rw [List.mem_replicate] at hd; rw [hd.2]; exact ⟨by decide, by decide⟩
theorem val_zeros (n : Nat) : val (List.replicate n 0) = 0 := by
  induction n with
  | zero => rfl
  | succ n ih => rw [List.replicate_succ, val, ih]; rfl

/-- the row that is being filled. -/
def RowR (w : World) (n : Nat) (rs : List Int) (wr : World) : Prop :=
  wr.rowIs w.heap.size 37 n (fun j => .int .u32 (at0 rs j)) ∧ rs.length = n ∧ Dig rs ∧ Below w.heap.size w wr

theorem RowR.start (w : World) (n : Nat) : RowR w n (List.replicate n 0) (w.alloc (.cells (madeCells #[.int .u32 0] n) 37)) :=
  ⟨(World.rowIs_made w _ n 37).congr (fun i hi => by simp [at0, hi]), by simp, dig_zeros n, (Below.refl _ _).alloc (Nat.le_refl _) _⟩
theorem RowR.set {w wr : World} {n : Nat} {rs : List Int} (h : RowR w n rs wr) (k : Nat) (d : Int) (hk : k < n) (h0 : 0 ≤ d) (h1 : d < 4294967296) :
    RowR w n (rs.set k d) (wr.setCell ⟨w.heap.size, k, none⟩ (.int .u32 d)) := by
  obtain ⟨r1, r2, r3, r4⟩ := h
  refine ⟨(r1.set k (.int .u32 d)).congr (fun i hi => ?_), by simp [r2], dig_set rs k d r3 h0 h1, r4.setCell (Nat.le_refl _) _⟩
  rw [at0_set rs k d (by omega)]
  by_cases h : i = k <;> simp [h]
theorem RowR.drewN {w wr : World} {n m : Nat} {rs : List Int} (h : RowR w n rs wr) : RowR w n rs (wr.drewN m) :=
  ⟨h.1, h.2.1, h.2.2.1, below_drewN h.2.2.2 m⟩
theorem RowR.rd {w wr : World} {n : Nat} {rs : List Int} (h : RowR w n rs wr) (hn : n ≤ maxLen) : Rd wr (.slice (some ⟨w.heap.size, 0, none⟩) n n) rs := by
  obtain ⟨r1, r2, r3, r4⟩ := h
  refine .inr ⟨w.heap.size, 0, n, by rw [r2], by omega, hn, (by obtain ⟨cur, hc⟩ := r1; exact ⟨cur, hc.1⟩), ?_⟩
  intro j hj
  rw [Nat.zero_add]
  exact r1.cell (by omega)

/-- i rows are done; of row i, j places, with what is carried on. -/
def RowI (xs ys rs : List Int) (i j : Nat) (c : Int) : Prop :=
  val rs + pw (i + j) * c = val (xs.take i) * val ys + pw i * at0 xs i * val (ys.take j) ∧ (∀ t, i + ys.length ≤ t → at0 rs t = 0)
def RowO (xs ys rs : List Int) (i : Nat) : Prop :=
  val rs = val (xs.take i) * val ys ∧ (∀ t, i + ys.length ≤ t → at0 rs t = 0)

theorem rowI_start {xs ys rs : List Int} {i : Nat} (h : RowO xs ys rs i) : RowI xs ys rs i 0 0 := ⟨by rw [h.1]; simp [val], h.2⟩
theorem rowI_step {xs ys rs : List Int} {i j : Nat} {c x y r v : Int} (h : RowI xs ys rs i j c) (hj : j < ys.length) (hl : i + j < rs.length)
    (hx : at0 xs i = x) (hy : at0 ys j = y) (hr : at0 rs (i + j) = r) (hv : v = x * y + r + c) :
    RowI xs ys (rs.set (i + j) (v % 4294967296)) i (j + 1) (v / 4294967296) := by
  obtain ⟨h1, h2⟩ := h
  refine ⟨?_, fun t ht => ?_⟩
  · rw [val_set rs (i + j) _ hl, hr, val_take_step ys j, hy, hx, show i + (j + 1) = (i + j) + 1 from by omega, pw_succ, pw_add]
    rw [pw_add, hx] at h1
    have e : pw i * pw j * (v - r - c) = pw i * x * (pw j * y) := by
      rw [show v - r - c = x * y from by omega]
      rw [Int.mul_assoc, Int.mul_assoc, Int.mul_left_comm (pw j) x y]
    have e2 : pw i * pw j * v = pw i * pw j * (v % 4294967296) + 4294967296 * (pw i * pw j) * (v / 4294967296) := by
      have : v = v % 4294967296 + 4294967296 * (v / 4294967296) := by omega
      conv => lhs; rw [this]
      rw [Int.mul_add, ← Int.mul_assoc, Int.mul_comm (pw i * pw j) 4294967296]
    rw [Int.mul_sub, Int.mul_sub] at e
    rw [Int.mul_sub, Int.mul_add (pw i * x)]
    omega
  · rw [at0_set rs (i + j) _ hl, if_neg (by omega)]
    exact h2 t ht
theorem rowI_end {xs ys rs : List Int} {i : Nat} {c : Int} (h : RowI xs ys rs i ys.length c) (hi : i < xs.length) (hl : i + ys.length < rs.length) :
    RowO xs ys (rs.set (i + ys.length) c) (i + 1) := by
  obtain ⟨h1, h2⟩ := h
  refine ⟨?_, fun t ht => ?_⟩
  · rw [val_set rs _ c hl, h2 _ (Nat.le_refl _), val_take_step xs i, Int.add_mul]
    rw [val_take_all ys _ (Nat.le_refl _)] at h1
    rw [show c - 0 = c from by omega]
    exact h1
  · rw [at0_set rs _ c hl, if_neg (by omega)]
    exact h2 t (by omega)

set_option maxHeartbeats 2000000 in
set_option maxRecDepth 100000 in
theorem times_walk (w : World) (xs ys : List Int) (a b : Option Addr) (ca cb : Nat) (ha : xs.length ≤ 1000) (hb : ys.length ≤ 1000) (da : Dig xs) (db : Dig ys)
    (sa : 0 < xs.length → ∃ g o, a = some ⟨g, o, none⟩ ∧ CellsAt w g o xs) (sb : 0 < ys.length → ∃ g o, b = some ⟨g, o, none⟩ ∧ CellsAt w g o ys) :
    Calls Try.prog 37 #[.slice a xs.length ca, .slice b ys.length cb] w fun e w' => (∃ u, e = .returned u ∧ Bn w' u (val xs * val ys)) ∧ Below w.heap.size w w' := by
  have hmk := run_make_row' (P := Try.prog) 29 37 (.int .u32 0) 4 Try.underlying29 info51 rfl .i64 .i64 (xs.length + ys.length) (by omega) (by omega)
  rw [show ((xs.length + ys.length : Nat) : Int) = (xs.length : Int) + (ys.length : Int) from by omega] at hmk
  have HD := hid da
  have HE := hid db
  have HA := hid sa
  have HB := hid sb
  clear da db sa sb
  go_enter Try.func37, Try.ntmps37
  go_wp2
  clear hmk
  go_loopw [6] (fun iv wr => ∃ (i : Nat) (rs : List Int), i ≤ xs.length ∧ iv = .int .i64 i ∧ Hid (RowR w (xs.length + ys.length) rs wr) ∧ Hid (RowO xs ys rs i)) (fun iv _ => xs.length - (intOf iv).toNat)
  case atStart => exact ⟨0, _, Nat.zero_le _, rfl, RowR.start w _, by simp [val, val_zeros], fun t _ => by unfold at0; rw [List.getElem?_replicate]; split <;> rfl⟩
  case round =>
    obtain ⟨i, rs, hi, rfl, HR, HO⟩ := hrel
    by_cases hlt : i < xs.length
    · go_wp2
      go_loopw [7, 8, 9] (fun cv jv _ wr => ∃ (j : Nat) (c : Int) (rs : List Int), j ≤ ys.length ∧ jv = .int .i64 j ∧ cv = .int .u64 c ∧ 0 ≤ c ∧ c < 4294967296 ∧ Hid (RowR w (xs.length + ys.length) rs wr) ∧ Hid (RowI xs ys rs i j c)) (fun _ jv _ _ => ys.length - (intOf jv).toNat)
      case atStart => exact ⟨0, 0, rs, Nat.zero_le _, rfl, rfl, by decide, by decide, HR, rowI_start HO.out⟩
      case round =>
        clear HR HO
        obtain ⟨j, c, rs, hj, rfl, rfl, c0, c1, HR, HI⟩ := hrel
        by_cases hjl : j < ys.length
        · obtain ⟨ga, oa, rfl, hca⟩ := HA.out (by omega)
          obtain ⟨gb, ob, rfl, hcb⟩ := HB.out (by omega)
          have cellA := (hca.below HR.out.2.2.2 (Nat.le_refl _)).2 i hlt
          have cellB := (hcb.below HR.out.2.2.2 (Nat.le_refl _)).2 j hjl
          have cellR := HR.out.1.cell (i := i + j) (by omega)
          have frozR := HR.out.1.frozen (i + j)
          have dx := at0_dig xs HD.out i
          have dy := at0_dig ys HE.out j
          have dr := at0_dig rs HR.out.2.2.1 (i + j)
          obtain ⟨x, hx⟩ : ∃ x, at0 xs i = x := ⟨_, rfl⟩
          obtain ⟨y, hy⟩ : ∃ y, at0 ys j = y := ⟨_, rfl⟩
          obtain ⟨r, hr⟩ : ∃ r, at0 rs (i + j) = r := ⟨_, rfl⟩
          rw [hx] at cellA dx
          rw [hy] at cellB dy
          simp only [hr] at cellR dr
          have m0 : 0 ≤ x * y := Int.mul_nonneg dx.1 dy.1
          have m1 := Int.mul_le_mul (a := x) (b := y) (c := 4294967295) (d := 4294967295) (by omega) (by omega) dy.1 (by omega)
          have ST := hid (fun v hv => rowI_step (v := v) HI.out hjl (by have := HR.out.2.1; omega) hx hy hr hv)
          obtain ⟨m, hm⟩ : ∃ m, x * y = m := ⟨_, rfl⟩
          rw [hm] at m0 m1 ST
          obtain ⟨x0, x1⟩ := dx
          obtain ⟨y0, y1⟩ := dy
          obtain ⟨r0, r1⟩ := dr
          have m2 : m ≤ 18446744065119617025 := m1
          clear m1 hx hy hr hca hcb
          go_wp2
          go_quiet (fail)
          go_wp2
          go_roundw
          case rel => exact ⟨j + 1, (m + r + c) / 4294967296, rs.set (i + j) ((m + r + c) % 4294967296), by omega, by go_num, rfl, by omega, by omega, HR.out.drewN.set (i + j) _ (by omega) (by omega) (by omega), ST.out _ rfl⟩
          case measure => simp [intOf]; omega
        · obtain rfl : j = ys.length := by omega
          have cellR := HR.out.1.cell (i := i + ys.length) (by omega)
          have frozR := HR.out.1.frozen (i + ys.length)
          have EN := hid (rowI_end HI.out hlt (by have := HR.out.2.1; omega))
          obtain ⟨r, hr⟩ : ∃ r, at0 rs (i + ys.length) = r := ⟨_, rfl⟩
          simp only [hr] at cellR
          clear hr
          go_wp2
          go_roundw
          case rel => exact ⟨i + 1, rs.set (i + ys.length) c, by omega, by go_num, HR.out.set (i + ys.length) c (by omega) c0 c1, EN⟩
          case measure => simp [intOf]; omega
    · obtain rfl : i = xs.length := by omega
      have HV := hid (show val rs = val xs * val ys by have := HO.out.1; rw [List.take_length] at this; exact this)
      go_wp2_with fail
      refine (trimmed_any wr _ rs (HR.out.rd (by unfold maxLen; omega)) HR.out.2.2.1).mono ?_
      rintro e w1 ⟨⟨u, rfl, hu⟩, rfl⟩
      have HU := hid hu
      clear hu
      go_wp2
      go_ret
      exact ⟨⟨u, rfl, by rw [← HV.out]; exact HU.out⟩, HR.out.2.2.2⟩

theorem times_any (w : World) (u v : Value) (x y : Int) (hu : Bn w u x) (hv : Bn w v y) (hx : x < pw 1000) (hy : y < pw 1000) :
    Calls Try.prog 37 #[u, v] w fun e w' => (∃ r, e = .returned r ∧ Bn w' r (x * y)) ∧ Below w.heap.size w w' := by
  obtain ⟨xs, x1, x2, x3, rfl⟩ := hu
  obtain ⟨ys, y1, y2, y3, rfl⟩ := hv
  obtain ⟨a, ca, rfl, a1, a2⟩ := x1.shape
  obtain ⟨b, cb, rfl, b1, b2⟩ := y1.shape
  exact times_walk w xs ys a b ca cb (len_le xs x2 x3 1000 hx) (len_le ys y2 y3 1000 hy) x2 y2 a2 b2
end Go.Proofs.Ythikjpccmplbiaa
