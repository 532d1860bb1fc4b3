/-
  The library's Mul64 at this program.
-/
import Derived.Shelf.Bits.Mul64
import Derived.Test.YtegdhffejmbakaaProg
import Derived.Test.YtegdhffejmbakaaNumA
import Derived.Test.YtegdhffejmbakaaCdF
namespace Go.Proofs
open Go.Shelf
def Try.lays264_ren : Go.Shelf.Ren := ⟨fun | 264 => 68 | n => n, fun | 53 => 24 | 46 => 92 | n => n, fun | n => n⟩
theorem Try.lays264 : Go.Proofs.Lays.n264 Try.prog Try.lays264_ren := {
  mixed := by kernel_rfl
  f264 := Try.func68.trans (congrArg some (by kernel_rfl))
  t46 := Try.underlying92
  a46 := Try.isAgg92
  z46 := Try.sizeOf92
  v46 := Try.zeroValue92
  t53 := Try.underlying24
  a53 := Try.isAgg24
  z53 := Try.sizeOf24
  v53 := Try.zeroValue24 }
open Go.RowKit Go.Lib in
theorem Try.bits_Mul64 (x y : Nat) (hx : x < 18446744073709551616) (hy : y < 18446744073709551616) (w : World) :
    Calls Try.prog 68 #[.int .u64 x, .int .u64 y] w fun e w' => e = .returned (.tuple #[.int .u64 ((x * y / 18446744073709551616 : Nat) : Int), .int .u64 ((x * y % 18446744073709551616 : Nat) : Int)]) ∧ w' = w := Any.bits_Mul64 Try.lays264 x y hx hy w
end Go.Proofs
namespace Go.Proofs.Ytegdhffejmbakaa
open Go.RowKit

def mulH (a b : Int) : Int := a * b / 18446744073709551616
def mulL (a b : Int) : Int := a * b % 18446744073709551616
def mulV (a b : Int) : Int := if a * b < 18446744073709551616 then a * b else 0
def mulE (a b : Int) : Int := if a * b < 18446744073709551616 then 0 else 10

theorem mul_word (a b : Int) (ha : Word a) (hb : Word b) : 0 ≤ a * b ∧ a * b ≤ 340282366920938463426481119284349108225 := by
  obtain ⟨a1, a2⟩ := ha; obtain ⟨b1, b2⟩ := hb
  refine ⟨Int.mul_nonneg a1 b1, ?_⟩
  have := Int.mul_le_mul (a := a) (b := b) (c := 18446744073709551615) (d := 18446744073709551615) (by omega) (by omega) b1 (by omega)
  exact this
theorem mulH_word (a b : Int) (ha : Word a) (hb : Word b) : Word (mulH a b) := by
  have := mul_word a b ha hb; unfold mulH Word; omega
theorem mulL_word (a b : Int) : Word (mulL a b) := by unfold mulL Word; omega

theorem mul64_any (a b : Int) (w : World) (ha : Word a) (hb : Word b) :
    Calls Try.prog 68 #[.int .u64 a, .int .u64 b] w fun e w' => e = .returned (.tuple #[.int .u64 (mulH a b), .int .u64 (mulL a b)]) ∧ w' = w := by
  obtain ⟨a1, a2⟩ := ha; obtain ⟨b1, b2⟩ := hb
  obtain ⟨x, rfl⟩ := Int.eq_ofNat_of_zero_le a1
  obtain ⟨y, rfl⟩ := Int.eq_ofNat_of_zero_le b1
  refine (Try.bits_Mul64 x y (by omega) (by omega) w).mono ?_
  rintro e w' ⟨rfl, rfl⟩
  refine ⟨?_, rfl⟩
  unfold mulH mulL
  simp only [Int.natCast_ediv, Int.natCast_emod, Int.natCast_mul]
  rfl

end Go.Proofs.Ytegdhffejmbakaa
namespace Go.Proofs.Ytegdhffejmbakaa
open Go.RowKit MonM
set_option linter.unusedVariables false
set_option linter.unusedSimpArgs false
set_option maxHeartbeats 8000000
set_option maxRecDepth 100000
attribute [local go_sem ↓] Go.wp_at_zero Go.wp_at_succ
theorem amt_neg (n : Int) (h : Amt n) : Amt (-n) := by unfold Amt at *; omega
set_option maxHeartbeats 400000 in
theorem numTimes_any (p q : Int) (w : World) (hp0 : 0 ≤ p) (hp1 : p < 4294967296) (hq : Word q) :
    Calls Try.prog 58 #[.int .u32 p, .int .u64 q] w fun e w' => e = .returned (mv (p * q)) ∧ Below w.heap.size w w' := by
  have hp : Word p := ⟨hp0, by omega⟩
  have hm := mul_word p q hp hq
  have e1 : mulH p q = hiW (p * q) := by unfold mulH hiW; omega
  have e2 : mulL p q = loW (p * q) := rfl
  have C := hid (fun w => mul64_any p q w hp hq)
  rw [e1, e2] at C
  clear e1 e2 hm hp hq
  go_enter Try.func58, Try.ntmps58
  go_wp2_with fail
  refine (C.out _).mono ?_; rintro e w1 ⟨rfl, rfl⟩
  go_wp2
  exact bodyPost_ret (v := mv (p * q)) (by simp [results, Try.results58, go_sem]) rfl ⟨rfl, (Below.refl _ _).alloc (Nat.le_refl _) _⟩
end Go.Proofs.Ytegdhffejmbakaa
namespace Go.Proofs.Ytegdhffejmbakaa
open Go.RowKit BigM
set_option linter.unusedVariables false
set_option linter.unusedSimpArgs false
set_option maxHeartbeats 8000000
set_option maxRecDepth 100000
attribute [local go_sem ↓] Go.wp_at_zero Go.wp_at_succ
theorem pw_mul (k : Nat) : pw (k + 1) = 4294967296 * pw k := pw_succ k

theorem val_set (l : List Int) (k : Nat) (d : Int) (hk : k < l.length) : val (l.set k d) = val l + pw k * (d - at0 l k) := by
  induction l generalizing k with
  | nil => simp at hk
  | cons x r ih =>
    cases k with
    | zero => simp [val, at0, pw_zero]; omega
    | succ k =>
      have hk' : k < r.length := by simpa using hk
      have := ih k hk'
      simp only [List.set_cons_succ, val, this, pw_succ]
      rw [Int.mul_add, ← Int.mul_assoc]
      simp [at0]; omega
theorem dig_zeros (n : Nat) : Dig (List.replicate n 0) := by
  intro d hd; rw [List.mem_replicate] at hd; rw [hd.2]; exact ⟨by decide, by decide⟩
theorem val_zeros (n : Nat) : val (List.replicate n 0) = 0 := by
  induction n with
  | zero => rfl
  | succ n ih => rw [List.replicate_succ, val, ih]; rfl

theorem RowR.start (w : World) (n : Nat) : RowR w n (List.replicate n 0) (w.alloc (.cells (madeCells #[.int .u32 0] n) 23)) :=
  ⟨(World.rowIs_made w _ n 23).congr (fun i hi => by simp [at0, hi]), by simp, dig_zeros n, (Below.refl _ _).alloc (Nat.le_refl _) _⟩
/-- i rows are done; of row i, j places, with what is carried on. -/
def RowI (xs ys rs : List Int) (i j : Nat) (c : Int) : Prop :=
  val rs + pw (i + j) * c = val (xs.take i) * val ys + pw i * at0 xs i * val (ys.take j) ∧ (∀ t, i + ys.length ≤ t → at0 rs t = 0)
def RowO (xs ys rs : List Int) (i : Nat) : Prop :=
  val rs = val (xs.take i) * val ys ∧ (∀ t, i + ys.length ≤ t → at0 rs t = 0)

theorem rowI_start {xs ys rs : List Int} {i : Nat} (h : RowO xs ys rs i) : RowI xs ys rs i 0 0 := ⟨by rw [h.1]; simp [val], h.2⟩
theorem rowI_step {xs ys rs : List Int} {i j : Nat} {c x y r v : Int} (h : RowI xs ys rs i j c) (hj : j < ys.length) (hl : i + j < rs.length)
    (hx : at0 xs i = x) (hy : at0 ys j = y) (hr : at0 rs (i + j) = r) (hv : v = x * y + r + c) :
    RowI xs ys (rs.set (i + j) (v % 4294967296)) i (j + 1) (v / 4294967296) := by
  obtain ⟨h1, h2⟩ := h
  refine ⟨?_, fun t ht => ?_⟩
  · rw [val_set rs (i + j) _ hl, hr, val_take_step ys j, hy, hx, show i + (j + 1) = (i + j) + 1 from by omega, pw_succ, pw_add]
    rw [pw_add, hx] at h1
    have e : pw i * pw j * (v - r - c) = pw i * x * (pw j * y) := by
      rw [show v - r - c = x * y from by omega]
      rw [Int.mul_assoc, Int.mul_assoc, Int.mul_left_comm (pw j) x y]
    have e2 : pw i * pw j * v = pw i * pw j * (v % 4294967296) + 4294967296 * (pw i * pw j) * (v / 4294967296) := by
      have : v = v % 4294967296 + 4294967296 * (v / 4294967296) := by omega
      conv => lhs; rw [this]
      rw [Int.mul_add, ← Int.mul_assoc, Int.mul_comm (pw i * pw j) 4294967296]
    rw [Int.mul_sub, Int.mul_sub] at e
    rw [Int.mul_sub, Int.mul_add (pw i * x)]
    omega
  · rw [at0_set rs (i + j) _ hl, if_neg (by omega)]
    exact h2 t ht
theorem rowI_end {xs ys rs : List Int} {i : Nat} {c : Int} (h : RowI xs ys rs i ys.length c) (hi : i < xs.length) (hl : i + ys.length < rs.length) :
    RowO xs ys (rs.set (i + ys.length) c) (i + 1) := by
  obtain ⟨h1, h2⟩ := h
  refine ⟨?_, fun t ht => ?_⟩
  · rw [val_set rs _ c hl, h2 _ (Nat.le_refl _), val_take_step xs i, Int.add_mul]
    rw [val_take_all ys _ (Nat.le_refl _)] at h1
    rw [show c - 0 = c from by omega]
    exact h1
  · rw [at0_set rs _ c hl, if_neg (by omega)]
    exact h2 t (by omega)

set_option maxHeartbeats 2000000 in
set_option maxRecDepth 100000 in
theorem times_walk (w : World) (xs ys : List Int) (a b : Option Addr) (ca cb : Nat) (ha : xs.length ≤ 1000) (hb : ys.length ≤ 1000) (da : Dig xs) (db : Dig ys)
    (sa : 0 < xs.length → ∃ g o, a = some ⟨g, o, none⟩ ∧ CellsAt w g o xs) (sb : 0 < ys.length → ∃ g o, b = some ⟨g, o, none⟩ ∧ CellsAt w g o ys) :
    Calls Try.prog 44 #[.slice a xs.length ca, .slice b ys.length cb] w fun e w' => (∃ u, e = .returned u ∧ Bn w' u (val xs * val ys)) ∧ Below w.heap.size w w' := by
  have hmk := run_make_row' (P := Try.prog) 39 23 (.int .u32 0) 4 Try.underlying39 info51 rfl .i64 .i64 (xs.length + ys.length) (by omega) (by omega)
  rw [show ((xs.length + ys.length : Nat) : Int) = (xs.length : Int) + (ys.length : Int) from by omega] at hmk
  have HD := hid da
  have HE := hid db
  have HA := hid sa
  have HB := hid sb
  clear da db sa sb
  go_enter Try.func44, Try.ntmps44
  go_wp2
  clear hmk
  go_loopw [6] (fun iv wr => ∃ (i : Nat) (rs : List Int), i ≤ xs.length ∧ iv = .int .i64 i ∧ Hid (RowR w (xs.length + ys.length) rs wr) ∧ Hid (RowO xs ys rs i)) (fun iv _ => xs.length - (intOf iv).toNat)
  case atStart => exact ⟨0, _, Nat.zero_le _, rfl, RowR.start w _, by simp [val, val_zeros], fun t _ => by unfold at0; rw [List.getElem?_replicate]; split <;> rfl⟩
  case round =>
    obtain ⟨i, rs, hi, rfl, HR, HO⟩ := hrel
    by_cases hlt : i < xs.length
    · go_wp2
      go_loopw [7, 8, 9] (fun cv jv _ wr => ∃ (j : Nat) (c : Int) (rs : List Int), j ≤ ys.length ∧ jv = .int .i64 j ∧ cv = .int .u64 c ∧ 0 ≤ c ∧ c < 4294967296 ∧ Hid (RowR w (xs.length + ys.length) rs wr) ∧ Hid (RowI xs ys rs i j c)) (fun _ jv _ _ => ys.length - (intOf jv).toNat)
      case atStart => exact ⟨0, 0, rs, Nat.zero_le _, rfl, rfl, by decide, by decide, HR, rowI_start HO.out⟩
      case round =>
        clear HR HO
        obtain ⟨j, c, rs, hj, rfl, rfl, c0, c1, HR, HI⟩ := hrel
        by_cases hjl : j < ys.length
        · obtain ⟨ga, oa, rfl, hca⟩ := HA.out (by omega)
          obtain ⟨gb, ob, rfl, hcb⟩ := HB.out (by omega)
          have cellA := (hca.below HR.out.2.2.2 (Nat.le_refl _)).2 i hlt
          have cellB := (hcb.below HR.out.2.2.2 (Nat.le_refl _)).2 j hjl
          have cellR := HR.out.1.cell (i := i + j) (by omega)
          have frozR := HR.out.1.frozen (i + j)
          have dx := at0_dig xs HD.out i
          have dy := at0_dig ys HE.out j
          have dr := at0_dig rs HR.out.2.2.1 (i + j)
          obtain ⟨x, hx⟩ : ∃ x, at0 xs i = x := ⟨_, rfl⟩
          obtain ⟨y, hy⟩ : ∃ y, at0 ys j = y := ⟨_, rfl⟩
          obtain ⟨r, hr⟩ : ∃ r, at0 rs (i + j) = r := ⟨_, rfl⟩
          rw [hx] at cellA dx
          rw [hy] at cellB dy
          simp only [hr] at cellR dr
          have m0 : 0 ≤ x * y := Int.mul_nonneg dx.1 dy.1
          have m1 := Int.mul_le_mul (a := x) (b := y) (c := 4294967295) (d := 4294967295) (by omega) (by omega) dy.1 (by omega)
          have ST := hid (fun v hv => rowI_step (v := v) HI.out hjl (by have := HR.out.2.1; omega) hx hy hr hv)
          obtain ⟨m, hm⟩ : ∃ m, x * y = m := ⟨_, rfl⟩
          rw [hm] at m0 m1 ST
          obtain ⟨x0, x1⟩ := dx
          obtain ⟨y0, y1⟩ := dy
          obtain ⟨r0, r1⟩ := dr
          have m2 : m ≤ 18446744065119617025 := m1
          clear m1 hx hy hr hca hcb
          go_wp2
          go_quiet (fail)
          go_wp2
          go_roundw
          case rel => exact ⟨j + 1, (m + r + c) / 4294967296, rs.set (i + j) ((m + r + c) % 4294967296), by omega, by go_num, rfl, by omega, by omega, HR.out.drewN.set (i + j) _ (by omega) (by omega) (by omega), ST.out _ rfl⟩
          case measure => simp [intOf]; omega
        · obtain rfl : j = ys.length := by omega
          have cellR := HR.out.1.cell (i := i + ys.length) (by omega)
          have frozR := HR.out.1.frozen (i + ys.length)
          have EN := hid (rowI_end HI.out hlt (by have := HR.out.2.1; omega))
          obtain ⟨r, hr⟩ : ∃ r, at0 rs (i + ys.length) = r := ⟨_, rfl⟩
          simp only [hr] at cellR
          clear hr
          go_wp2
          go_roundw
          case rel => exact ⟨i + 1, rs.set (i + ys.length) c, by omega, by go_num, HR.out.set (i + ys.length) c (by omega) c0 c1, EN⟩
          case measure => simp [intOf]; omega
    · obtain rfl : i = xs.length := by omega
      have HV := hid (show val rs = val xs * val ys by have := HO.out.1; rw [List.take_length] at this; exact this)
      go_wp2_with fail
      refine (trimmed_any wr _ rs (HR.out.rd (by unfold maxLen; omega)) HR.out.2.2.1).mono ?_
      rintro e w1 ⟨⟨u, rfl, hu⟩, rfl⟩
      have HU := hid hu
      clear hu
      go_wp2
      go_ret
      exact ⟨⟨u, rfl, by rw [← HV.out]; exact HU.out⟩, HR.out.2.2.2⟩

theorem times_any (w : World) (u v : Value) (x y : Int) (hu : Bn w u x) (hv : Bn w v y) (hx : x < pw 1000) (hy : y < pw 1000) :
    Calls Try.prog 44 #[u, v] w fun e w' => (∃ r, e = .returned r ∧ Bn w' r (x * y)) ∧ Below w.heap.size w w' := by
  obtain ⟨xs, x1, x2, x3, rfl⟩ := hu
  obtain ⟨ys, y1, y2, y3, rfl⟩ := hv
  obtain ⟨a, ca, rfl, a1, a2⟩ := x1.shape
  obtain ⟨b, cb, rfl, b1, b2⟩ := y1.shape
  exact times_walk w xs ys a b ca cb (len_le xs x2 x3 1000 hx) (len_le ys y2 y3 1000 hy) x2 y2 a2 b2
end Go.Proofs.Ytegdhffejmbakaa
namespace Go.Proofs.Ytegdhffejmbakaa.Dm
open Go.RowKit Go.Deep BigM MonM TexM ParM
set_option linter.unusedVariables false
set_option linter.unusedSimpArgs false
set_option maxHeartbeats 8000000
set_option maxRecDepth 100000
attribute [local go_sem ↓] Go.wp_at_zero Go.wp_at_succ
theorem abs_zero (m : Int) : absI m = 0 ↔ m = 0 := by unfold absI; split <;> omega
theorem absI_neg (m : Int) : absI (-m) = absI m := by unfold absI; split <;> split <;> omega
theorem rneg_any (v : Value) (m : Int) (w : World) (hv : Am w v m) :
    Calls Try.prog 49 #[v] w fun e w' => (∃ v', e = .returned v' ∧ Am w' v' (-m)) ∧ Below w.heap.size w w' := by
  obtain ⟨u, rfl, hu⟩ := hv
  obtain ⟨a, n, c, rfl, hn⟩ := bn_form hu
  obtain ⟨b, hb⟩ : ∃ b, decide (m < 0) = b := ⟨_, rfl⟩
  rw [hb]
  obtain ⟨Wa, hWa⟩ : ∃ W, w.alloc (.cells #[.bool b, .slice a n c] 41) = W := ⟨_, rfl⟩
  obtain ⟨Wb, hWb⟩ : ∃ W, Wa.alloc (.cells #[.bool false, .slice none 0 0] 41) = W := ⟨_, rfl⟩
  have ba : Below w.heap.size w Wa := by rw [← hWa]; exact ball _ _
  have bb : Below Wa.heap.size Wa Wb := by rw [← hWb]; exact ball _ _
  have ra := row_on (show Wa.heap[w.heap.size]? = some (.cells #[.bool b, .slice a n c] 41 (0, 0)) from by rw [← hWa]; exact World.alloc_heap_new _ _) bb
  have RB := hid (show Wb.heap[Wa.heap.size]? = some (.cells #[.bool false, .slice none 0 0] 41 (0, 0)) from by rw [← hWb]; exact World.alloc_heap_new _ _)
  have HG := hid ba.size
  have BB := hid (btr ba bb)
  have a0 : Wb.cell? ⟨w.heap.size, 0, none⟩ = some (.bool b) := row_cell ra 0
  have a1 : Wb.cell? ⟨w.heap.size, 1, none⟩ = some (.slice a n c) := row_cell ra 1
  obtain ⟨g, hg⟩ : ∃ g, Wa.heap.size = g := ⟨_, rfl⟩
  rw [hg] at RB HG
  have hl := bn_len hu
  have h0 := hu.nonneg
  have hz := abs_zero m
  have HN := hid (show ∀ r, r = decide (-m < 0) → Am (Wb.setRow g #[.bool r, .slice a n c]) (.agg #[.bool r, .slice a n c]) (-m) from fun r hr => ⟨.slice a n c, by rw [hr], by
    rw [absI_neg]
    exact hu.to (setRow_below BB.out HG.out)⟩)
  have HP := hid (show 0 < n ↔ m ≠ 0 from by
    constructor
    · intro h e; have := hz.2 e; omega
    · intro h
      have : absI m ≠ 0 := fun e => h (hz.1 e)
      omega)
  have HB := hid hb
  clear hu hb ra ba bb hl h0 hz
  cases b with
  | true =>
    have HR := hid (show false = decide (-m < 0) from by have := of_decide_eq_true HB.out; symm; rw [decide_eq_false_iff_not]; omega)
    go_enter Try.func49, Try.ntmps49
    go_wp2_with (refine wpList_store_row (by rfl) 41 (.tmp 2) (.tmp 14) (by rfl) g #[.bool false, .slice a n c] (by rfl) (by rfl) 41 _ RB.out (am_info _ _) (am_size _ _ _ _) (am_all _ _ _ _) ?_)
    refine bodyPost_ret (res_c Try.results49 _ _ g 41 #[.bool false, .slice a n c] (0, 0) _ (by rfl) (setRow_heap _ _ _ _ 41 (0, 0) RB.out) Try.underlying41 rfl info32) rfl ⟨?_, setRow_below BB.out HG.out⟩
    exact ⟨_, rfl, HN.out _ HR.out⟩
  | false =>
    by_cases hn0 : 0 < n
    · have HR := hid (show true = decide (-m < 0) from by have := of_decide_eq_false HB.out; have := HP.out.1 hn0; symm; rw [decide_eq_true_iff]; omega)
      have c0 : decide (0 < n) = true := decide_eq_true hn0
      go_enter Try.func49, Try.ntmps49
      go_wp2_with (refine wpList_store_row (by rfl) 41 (.tmp 2) (.tmp 14) (by rfl) g #[.bool true, .slice a n c] (by rfl) (by rfl) 41 _ RB.out (am_info _ _) (am_size _ _ _ _) (am_all _ _ _ _) ?_)
      refine bodyPost_ret (res_c Try.results49 _ _ g 41 #[.bool true, .slice a n c] (0, 0) _ (by rfl) (setRow_heap _ _ _ _ 41 (0, 0) RB.out) Try.underlying41 rfl info32) rfl ⟨?_, setRow_below BB.out HG.out⟩
      exact ⟨_, rfl, HN.out _ HR.out⟩
    · have HR := hid (show false = decide (-m < 0) from by
        have e : m = 0 := Classical.byContradiction fun h => hn0 (HP.out.2 h)
        rw [e]; rfl)
      have c0 : decide (0 < n) = false := decide_eq_false hn0
      go_enter Try.func49, Try.ntmps49
      go_wp2_with (refine wpList_store_row (by rfl) 41 (.tmp 2) (.tmp 14) (by rfl) g #[.bool false, .slice a n c] (by rfl) (by rfl) 41 _ RB.out (am_info _ _) (am_size _ _ _ _) (am_all _ _ _ _) ?_)
      refine bodyPost_ret (res_c Try.results49 _ _ g 41 #[.bool false, .slice a n c] (0, 0) _ (by rfl) (setRow_heap _ _ _ _ 41 (0, 0) RB.out) Try.underlying41 rfl info32) rfl ⟨?_, setRow_below BB.out HG.out⟩
      exact ⟨_, rfl, HN.out _ HR.out⟩
theorem rtimes_any (p q : Int) (w : World) (hp0 : 0 ≤ p) (hp1 : p < 4294967296) (hq : Word q) :
    Calls Try.prog 20 #[.int .u32 p, .int .u64 q] w fun e w' => (∃ v, e = .returned v ∧ Am w' v (p * q)) ∧ Below w.heap.size w w' := by
  obtain ⟨W1, hW1⟩ : ∃ W, w.alloc (.cells #[.bool false, .slice none 0 0] 41) = W := ⟨_, rfl⟩
  have B1 := hid (show Below w.heap.size w W1 from by rw [← hW1]; exact ball _ _)
  have R1 := hid (show W1.heap[w.heap.size]? = some (.cells #[.bool false, .slice none 0 0] 41 (0, 0)) from by rw [← hW1]; exact World.alloc_heap_new _ _)
  obtain ⟨g, hg⟩ : ∃ g, w.heap.size = g := ⟨_, rfl⟩
  have HG := hid (Nat.le_of_eq hg)
  rw [hg] at R1
  have h0 : 0 ≤ p * q := Int.mul_nonneg hp0 hq.1
  have HN := hid (show false = decide (p * q < 0) ∧ absI (p * q) = p * q from ⟨by symm; rw [decide_eq_false_iff_not]; omega, if_neg (by omega)⟩)
  have HX := hid (show p < pw 1000 ∧ q < pw 1000 from by have := pw4; have := hq.2; omega)
  have CO := hid (of_any p W1 ⟨by omega, by omega⟩)
  have CP := hid (fun U => of_any q U hq)
  clear h0
  go_enter Try.func20, Try.ntmps20
  go_wp2_with (first | (go_at_call 45; with_reducible refine CO.out.mono ?_; rintro e w2 ⟨⟨u2, rfl, h1⟩, h2⟩; have N2 := hid h1; have R2 := hid (row_on R1.out h2); have B2 := hid (btr B1.out h2); clear CO h1 h2) | (go_at_call 45; with_reducible refine (CP.out _).mono ?_; rintro e w3 ⟨⟨u3, rfl, h1⟩, h2⟩; have N3 := hid h1; have M3 := hid (N2.out.to h2); have R3 := hid (row_on R2.out h2); have B3 := hid (btr B2.out h2); clear h1 h2) | (go_at_call 44; with_reducible refine (times_any _ _ _ _ _ M3.out N3.out HX.out.1 HX.out.2).mono ?_; rintro e w4 ⟨⟨u4, rfl, h1⟩, h2⟩; have N4 := hid h1; have R4 := hid (row_on R3.out h2); have B4 := hid (btr B3.out h2); clear h1 h2; obtain ⟨a2, n2, c2, rfl, _⟩ := bn_form N4.out) | (refine wpList_store_row (by rfl) 41 (.tmp 4) (.tmp 11) (by rfl) g #[.bool false, .slice a2 n2 c2] (by rfl) (by rfl) 41 _ R4.out (am_info _ _) (am_size _ _ _ _) (am_all _ _ _ _) ?_))
  refine bodyPost_ret (res_c Try.results20 _ _ g 41 #[.bool false, .slice a2 n2 c2] (0, 0) _ (by rfl) (setRow_heap _ _ _ _ 41 (0, 0) R4.out) Try.underlying41 rfl info32) rfl ⟨?_, setRow_below B4.out HG.out⟩
  exact ⟨_, rfl, am_of _ _ _ _ HN.out.1 (by rw [HN.out.2]; exact bn_row N4.out R4.out)⟩
/-- a difference, of the document's. -/
theorem rsub_any (v u : Value) (m k : Int) (w : World) (hv : Am w v m) (hu : Am w u k) (hm : Amt m) (hk : Amt k) :
    Calls Try.prog 23 #[v, u] w fun e w' => Ans w' e (maddV m (-k)) (maddE m (-k)) ∧ Below w.heap.size w w' := by
  obtain ⟨b, a, n, c, rfl⟩ := am_form hv
  obtain ⟨d, a', n', c', rfl⟩ := am_form hu
  obtain ⟨Wa, hWa⟩ : ∃ W, w.alloc (.cells #[.bool b, .slice a n c] 41) = W := ⟨_, rfl⟩
  obtain ⟨Wb, hWb⟩ : ∃ W, Wa.alloc (.cells #[.bool d, .slice a' n' c'] 41) = W := ⟨_, rfl⟩
  obtain ⟨Wc, hWc⟩ : ∃ W, Wb.alloc (.cells #[.bool false, .slice none 0 0] 41) = W := ⟨_, rfl⟩
  have ba : Below w.heap.size w Wa := by rw [← hWa]; exact ball _ _
  have bb : Below Wa.heap.size Wa Wb := by rw [← hWb]; exact ball _ _
  have bc : Below Wb.heap.size Wb Wc := by rw [← hWc]; exact ball _ _
  have ra := row_on (show Wa.heap[w.heap.size]? = some (.cells #[.bool b, .slice a n c] 41 (0, 0)) from by rw [← hWa]; exact World.alloc_heap_new _ _) bb
  have rb : Wb.heap[Wa.heap.size]? = some (.cells #[.bool d, .slice a' n' c'] 41 (0, 0)) := by rw [← hWb]; exact World.alloc_heap_new _ _
  have RC := hid (show Wc.heap[Wb.heap.size]? = some (.cells #[.bool false, .slice none 0 0] 41 (0, 0)) from by rw [← hWc]; exact World.alloc_heap_new _ _)
  have BB := hid (btr ba bb)
  have BC := hid bc
  obtain ⟨g2, hg2⟩ : ∃ g, w.heap.size = g := ⟨_, rfl⟩
  obtain ⟨g3, hg3⟩ : ∃ g, Wa.heap.size = g := ⟨_, rfl⟩
  obtain ⟨gr, hgr⟩ : ∃ g, Wb.heap.size = g := ⟨_, rfl⟩
  have HG := hid (Nat.le_of_eq hgr)
  rw [hg2] at ra
  rw [hg3] at rb
  rw [hgr] at RC
  have K0 := hid (show ∀ U, Below Wb.heap.size Wb U → U.cell? ⟨g2, 0, none⟩ = some (.bool b) from fun U h => row_cell (row_on ra h) 0)
  have K1 := hid (show ∀ U, Below Wb.heap.size Wb U → U.cell? ⟨g2, 1, none⟩ = some (.slice a n c) from fun U h => row_cell (row_on ra h) 1)
  have K2 := hid (show ∀ U, Below Wb.heap.size Wb U → U.cell? ⟨g3, 0, none⟩ = some (.bool d) from fun U h => row_cell (row_on rb h) 0)
  have K3 := hid (show ∀ U, Below Wb.heap.size Wb U → U.cell? ⟨g3, 1, none⟩ = some (.slice a' n' c') from fun U h => row_cell (row_on rb h) 1)
  have CN := hid (show ∀ U, Below Wb.heap.size Wb U → Calls Try.prog 49 #[.agg #[.bool d, .slice a' n' c']] U fun e w' => (∃ r1 a1 n1 c1, e = .returned (.agg #[.bool r1, .slice a1 n1 c1]) ∧ Am w' (.agg #[.bool r1, .slice a1 n1 c1]) (-k)) ∧ Below U.heap.size U w' from fun U h =>
    (rneg_any _ k U ((hu.on BB.out).on h)).mono (fun e w' ⟨⟨v', e1, e2⟩, h2⟩ => ⟨by
      obtain ⟨r1, a1, n1, c1, rfl⟩ := am_form e2
      exact ⟨r1, a1, n1, c1, e1, e2⟩, h2⟩))
  have CA := hid (show ∀ U, Below Wb.heap.size Wb U → ∀ z, Am U z (-k) → Calls Try.prog 22 #[.agg #[.bool b, .slice a n c], z] U fun e w' => Ans w' e (maddV m (-k)) (maddE m (-k)) ∧ Below U.heap.size U w' from fun U h z hz =>
    radd_any _ z m (-k) U ((hv.on BB.out).on h) hz hm (amt_neg k hk))
  clear hv hu ba bb bc ra rb hm hk
  obtain ⟨V, hV⟩ : ∃ V, maddV m (-k) = V := ⟨_, rfl⟩
  obtain ⟨E, hE⟩ : ∃ E, maddE m (-k) = E := ⟨_, rfl⟩
  rw [hV, hE] at CA ⊢
  clear hV hE
  go_enter Try.func23, Try.ntmps23
  go_upto_region 1 with fail
  obtain ⟨V22, hV22⟩ : ∃ U, Wc.drew = U := ⟨_, rfl⟩
  have DV22 := hid (show Below Wc.heap.size Wc V22 from by rw [← hV22]; exact bdrew1 _)
  have BV22 := hid (btr (BC.out) DV22.out)
  have Rw23 := hid (row_on RC.out DV22.out)
  refine wp_region_held_drew (S := fun U => U.cell? ⟨g2, 0, none⟩ = some (.bool b) ∧ U.cell? ⟨g2, 1, none⟩ = some (.slice a n c) ∧ U.cell? ⟨g3, 0, none⟩ = some (.bool d) ∧ U.cell? ⟨g3, 1, none⟩ = some (Value.slice a' n' c')) (by kernel_rfl) ?_ (fun hHeld => ?_)
  · (try dsimp only); rw [hV22]; exact ⟨K0.out _ BV22.out, K1.out _ BV22.out, K2.out _ BV22.out, K3.out _ BV22.out⟩
  rw [hV22] at hHeld ⊢
  clear hV22
  refine' wpAnyH_take (i := 0) (oi := _) (v := _) rfl (by kernel_rfl) (by kernel_rfl) (by kernel_rfl) (fun _ _ _ h => h) (Or.inl ⟨by kernel_rfl, ?_⟩) (by assumption) ?_
  rotate_left
  · (intro w hSw; (try dsimp only at hSw); go_simp; try (with_reducible rfl))
  try simp only [List.getElem_toArray, List.getElem_cons_succ, List.getElem_cons_zero, Act.put, List.setIfInBounds_toArray, List.set_cons_zero, List.set_cons_succ]
  refine' wpAnyH_take (i := 1) (oi := _) (v := _) rfl (by kernel_rfl) (by kernel_rfl) (by kernel_rfl) (fun _ _ _ h => h) (Or.inl ⟨by kernel_rfl, ?_⟩) (by assumption) ?_
  rotate_left
  · (intro w hSw; (try dsimp only at hSw); go_simp; try (with_reducible rfl))
  try simp only [List.getElem_toArray, List.getElem_cons_succ, List.getElem_cons_zero, Act.put, List.setIfInBounds_toArray, List.set_cons_zero, List.set_cons_succ]
  refine wpAnyH_ready (rs := [2]) (by kernel_rfl) (by simp) ?_
  refine (AllReadyH.cons (o := _) rfl (fun K hK => ?_) AllReadyH.nil)
  go_simp
  go_at_call 49
  with_reducible refine (CN.out V22 BV22.out).mono ?_
  rintro e X24 ⟨⟨r5, a5, n5, c5, rfl, h5⟩, DbX24⟩
  have DX24 := hid (btr DV22.out DbX24)
  have BX24 := hid (btr BV22.out DbX24)
  have Rw25 := hid (row_on Rw23.out DbX24)
  have N5 := hid h5
  clear h5
  (try go_wp2_with fail)
  refine hK.out _ _ ?_ (fun hHeld => ?_)
  · (try dsimp only); exact ⟨K0.out _ BX24.out, K1.out _ BX24.out, K2.out _ BX24.out, K3.out _ BX24.out⟩
  clear hK K
  try simp only [List.getElem_toArray, List.getElem_cons_succ, List.getElem_cons_zero, Act.put, List.setIfInBounds_toArray, List.set_cons_zero, List.set_cons_succ]
  refine wpAnyH_ready (rs := [3]) (by kernel_rfl) (by simp) ?_
  refine (AllReadyH.cons (o := _) rfl (fun K hK => ?_) AllReadyH.nil)
  go_simp
  go_at_call 22
  with_reducible refine (CA.out X24 BX24.out _ N5.out).mono ?_
  rintro e X26 ⟨⟨r6, a6, n6, c6, rfl, h6⟩, DbX26⟩
  have DX26 := hid (btr DX24.out DbX26)
  have BX26 := hid (btr BX24.out DbX26)
  have Rw27 := hid (row_on Rw25.out DbX26)
  have N6 := hid h6
  clear h6
  (try go_wp2_with fail)
  refine hK.out _ _ ?_ (fun hHeld => ?_)
  · (try dsimp only); exact ⟨K0.out _ BX26.out, K1.out _ BX26.out, K2.out _ BX26.out, K3.out _ BX26.out⟩
  clear hK K
  try simp only [List.getElem_toArray, List.getElem_cons_succ, List.getElem_cons_zero, Act.put, List.setIfInBounds_toArray, List.set_cons_zero, List.set_cons_succ]
  refine' wpAnyH_take (i := 4) (oi := _) (v := _) rfl (by kernel_rfl) (by kernel_rfl) (by kernel_rfl) (fun _ _ _ h => h) (Or.inl ⟨by kernel_rfl, ?_⟩) (by assumption) ?_
  rotate_left
  · (intro w hSw; (try dsimp only at hSw); go_simp; try (with_reducible rfl))
  try simp only [List.getElem_toArray, List.getElem_cons_succ, List.getElem_cons_zero, Act.put, List.setIfInBounds_toArray, List.set_cons_zero, List.set_cons_succ]
  refine' wpAnyH_take (i := 5) (oi := _) (v := _) rfl (by kernel_rfl) (by kernel_rfl) (by kernel_rfl) (fun _ _ _ h => h) (Or.inl ⟨by kernel_rfl, ?_⟩) (by assumption) ?_
  rotate_left
  · (intro w hSw; (try dsimp only at hSw); go_simp; try (with_reducible rfl))
  try simp only [List.getElem_toArray, List.getElem_cons_succ, List.getElem_cons_zero, Act.put, List.setIfInBounds_toArray, List.set_cons_zero, List.set_cons_succ]
  refine wpAnyH_ready (rs := [6]) (by kernel_rfl) (by simp) ?_
  refine (AllReadyH.cons (o := _) rfl (fun K hK => ?_) AllReadyH.nil)
  refine step_store_row (by rfl) 41 (.tmp 4) (.tmp 10) (by rfl) gr #[.bool r6, .slice a6 n6 c6] (by rfl) (by rfl) 41 _ Rw27.out (am_info _ _) (am_size _ _ _ _) (am_all _ _ _ _) ?_
  have AY28 := hid (setRow_heap X26 gr _ #[.bool r6, .slice a6 n6 c6] 41 (0, 0) Rw27.out)
  have BY28 := hid (setRow_below (cs := #[.bool r6, .slice a6 n6 c6]) BX26.out HG.out)
  have NY28 := hid (am_row (cs := #[.bool r6, .slice a6 n6 c6]) N6.out Rw27.out)
  obtain ⟨Y28, hY28⟩ : ∃ Y, X26.setRow gr #[.bool r6, .slice a6 n6 c6] = Y := ⟨_, rfl⟩
  rw [hY28] at AY28 BY28 NY28 ⊢
  clear hY28
  refine hK.out _ _ ?_ (fun hHeld => ?_)
  · (try dsimp only); exact ⟨K0.out _ BY28.out, K1.out _ BY28.out, K2.out _ BY28.out, K3.out _ BY28.out⟩
  clear hK K
  try simp only [List.getElem_toArray, List.getElem_cons_succ, List.getElem_cons_zero, Act.put, List.setIfInBounds_toArray, List.set_cons_zero, List.set_cons_succ]
  refine' wpAnyH_take (i := 7) (oi := _) (v := _) rfl (by kernel_rfl) (by kernel_rfl) (by kernel_rfl) (fun _ _ _ h => h) (Or.inl ⟨by kernel_rfl, ?_⟩) (by assumption) ?_
  rotate_left
  · (intro w hSw; (try dsimp only at hSw); go_simp; try (with_reducible rfl))
  try simp only [List.getElem_toArray, List.getElem_cons_succ, List.getElem_cons_zero, Act.put, List.setIfInBounds_toArray, List.set_cons_zero, List.set_cons_succ]
  refine wpAnyH_done (by kernel_rfl) ?_ _
  go_wp2
  refine bodyPost_ret (res_ct Try.results23 _ _ gr 41 #[.bool r6, .slice a6 n6 c6] (0, 0) _ (.int .i64 E) (by rfl) (by rfl) AY28.out Try.underlying41 rfl info32) rfl ⟨?_, btr BB.out BY28.out⟩
  exact ⟨r6, a6, n6, c6, rfl, NY28.out⟩
end Go.Proofs.Ytegdhffejmbakaa.Dm
namespace Go.Proofs.Ytegdhffejmbakaa.Ac
open Go.RowKit Go.Deep Go.Maps BigM MonM TexM Go.Proofs.Ytegdhffejmbakaa
set_option linter.unusedVariables false
set_option linter.unusedSimpArgs false
set_option maxRecDepth 100000
section
variable {K V : Type} {s : Kv K V}
theorem Mp.look {w : World} {M n : Nat} {f : K → Option V} (h : Mp s w M n f) (S : KvOk s) (k : K) (hk : s.ok k) : (Instr.lookup s.mt (.map (some M)) (s.kv k) true).run Try.prog w = .ok (.tuple #[s.val ((f k).getD s.zero), .bool (f k).isSome]) w := by
  obtain ⟨v, h1, rfl⟩ := h.val S k hk
  exact h1
/-- every key of the type is one of ours. -/
def KvAll {K V : Type} (s : Kv K V) : Prop := ∀ v l, keyOf Try.prog s.kt v = some l → ∃ k, s.ok k ∧ v = s.kv k
theorem Mr.next [DecidableEq K] {w : World} {M r n cnt : Nat} {f : K → Option V} {lf : K → Bool} (h : Mr s w M r n f lf cnt) (S : KvOk s) (A : KvAll s) :
    ((∀ k, s.ok k → lf k = false) ∧ ∀ ty, (Instr.next (.pointer (some ⟨r, 0, none⟩)) false ty).run Try.prog w = .ok (.tuple #[.bool false]) w) ∨
    ∃ k v w' cnt', s.ok k ∧ lf k = true ∧ (∀ ty, (Instr.next (.pointer (some ⟨r, 0, none⟩)) false ty).run Try.prog w = .ok (.tuple #[.bool true, s.kv k, v]) w') ∧ (Instr.entry (.pointer (some ⟨r, 0, none⟩))).run Try.prog w' = .ok (.tuple #[s.kv k, v]) w' ∧ Mr s w' M r n f (fun x => lf x && !(decide (x = k))) cnt' ∧ cnt' < cnt ∧ Kp (fun b => b = r) w w' := by
  obtain ⟨D, left, h1, h2, h3, h4, h5⟩ := h
  rcases h1.next S.law 0 with ⟨_, h0, hr⟩ | ⟨key, v, kl, y, w', cnt', hkey, hl, hv, hat, hr, hrg, hlt, hgr, hsz, hen⟩
  · exact .inl ⟨fun k hk => by rw [← h2 k hk]; exact h0 _, fun ty => hr⟩
  · obtain ⟨k, hk, rfl⟩ := A _ _ hkey
    have ek : s.kl k = kl := by
      have := S.key k hk
      rw [hkey] at this
      exact (Option.some.inj this).symm
    subst ek
    refine .inr ⟨k, v, w', cnt', hk, by rw [← h2 k hk]; exact hl, fun ty => hr, hen, ⟨D, _, hrg, fun x hx => ?_, h3, h4, fun x hx hl => h5 x hx (by simp at hl; exact hl.1)⟩, hlt, ⟨hgr.os, hgr.tape, hgr.output, hgr.size, fun b hb hne => hgr.block b hb (by simpa using hne)⟩⟩
    rw [h2 x hx]
    by_cases e : x = k
    · subst e
      rw [WideAt.sameKey_self (S.law.key (S.key x hx))]
      simp
    · rw [sameKey_ne (S.ne hx hk e)]
      simp [e]

end
end Go.Proofs.Ytegdhffejmbakaa.Ac
