/-
  The document's minus.
-/
import Derived.Test.YthikjpccmplbiaaBigC
namespace Go.Proofs.Ythikjpccmplbiaa
open Go.RowKit BigM
set_option linter.unusedVariables false

/-- what has been gathered of a difference, k places on. -/
def MinusR (w : World) (xs ys : List Int) (v : Value) (c : Int) (k : Nat) (wr : World) : Prop :=
  ∃ rs : List Int, wr.ownsRow w.heap.size 37 1 v k (rs.map (Value.int .u32)) ∧ rs.length = k ∧ Dig rs ∧ val rs = val (xs.take k) - val (ys.take k) + pw k * c ∧ Below w.heap.size w wr

theorem minusR_start (w : World) (xs ys : List Int) : MinusR w xs ys (.slice (some ⟨w.heap.size, 0, none⟩) 0 0) 0 0 (w.alloc (.cells #[] 37)) :=
  ⟨[], World.ownsRow_made w #[] 0 (Nat.le_refl _) (Nat.zero_le _) rfl, rfl, dig_nil, by simp [val], (Below.refl _ _).alloc (Nat.le_refl _) _⟩

theorem minusR_step {w wr w1 : World} {xs ys rs : List Int} {v v' : Value} {c x y s : Int} {k : Nat} {o : Obj}
    (h1 : wr.ownsRow w.heap.size 37 1 v k (rs.map (Value.int .u32))) (h2 : rs.length = k) (h3 : Dig rs) (h4 : val rs = val (xs.take k) - val (ys.take k) + pw k * c) (h5 : Below w.heap.size w wr)
    (hx : at0 xs k = x) (hy : at0 ys k = y) (hs : s = x + 4294967296 - c - y)
    (hown : w1.ownsRow w.heap.size 37 1 v' (k + 1) (rs.map (Value.int .u32) ++ [.int .u32 (s % 4294967296)]))
    (hg : (wr.alloc o).grownBy w1 v.ownBlock) : MinusR w xs ys v' (1 - s / 4294967296) (k + 1) w1 := by
  refine ⟨rs ++ [s % 4294967296], ?_, by simp [h2], h3.snoc (by omega) (by omega), ?_, ?_⟩
  · simpa using hown
  · rw [val_snoc, h2, val_take_step xs k, val_take_step ys k, hx, hy, pw_succ]
    have e : pw k * (x - y - c) = pw k * (s % 4294967296) - 4294967296 * pw k * (1 - s / 4294967296) := by
      have : x - y - c = s % 4294967296 - 4294967296 * (1 - s / 4294967296) := by omega
      rw [this, Int.mul_sub, ← Int.mul_assoc, Int.mul_comm (pw k) 4294967296]
    rw [Int.mul_sub, Int.mul_sub] at e
    omega
  · exact (h5.alloc h5.size o).grown hg (by have := h5.size; simp; omega) (fun j hj => (h1.lt j hj).1)

set_option maxHeartbeats 2000000 in
set_option maxRecDepth 100000 in
theorem minus_walk (w : World) (xs ys : List Int) (a b : Option Addr) (ca cb : Nat) (ha : xs.length ≤ 1000) (hb : ys.length ≤ xs.length) (da : Dig xs) (db : Dig ys) (hle : val ys ≤ val xs)
    (sa : 0 < xs.length → ∃ g o, a = some ⟨g, o, none⟩ ∧ CellsAt w g o xs) (sb : 0 < ys.length → ∃ g o, b = some ⟨g, o, none⟩ ∧ CellsAt w g o ys) :
    Calls Try.prog 45 #[.slice a xs.length ca, .slice b ys.length cb] w fun e w' => (∃ u, e = .returned u ∧ Bn w' u (val xs - val ys)) ∧ Below w.heap.size w w' := by
  obtain ⟨i0, hi, hz0, hz1, hz2⟩ := info_parts info51
  have I0 := hid hi
  have I1 := hid hz0
  have I2 := hid hz1
  have I3 := hid hz2
  have HL := hid hle
  clear hi hz0 hz1 hz2 hle
  go_enter Try.func45, Try.ntmps45
  go_wp2
  go_loopw [5, 6, 7] (fun v cv iv wr => ∃ (k : Nat) (c : Int), iv = .int .i64 k ∧ cv = .int .u64 c ∧ 0 ≤ c ∧ c ≤ 1 ∧ k ≤ xs.length ∧ MinusR w xs ys v c k wr)
    (fun _ _ iv _ => xs.length - (intOf iv).toNat)
  case atStart => exact ⟨0, 0, rfl, rfl, by decide, by decide, Nat.zero_le _, minusR_start w xs ys⟩
  case round =>
    obtain ⟨k, c, rfl, rfl, c0, c1, hk, rs, r1, r2, r3, r4, r5⟩ := hrel
    have dx := at0_dig xs da k
    have dy := at0_dig ys db k
    have hsz := r5.size
    have H1 := hid r1
    have H2 := hid r2
    have H3 := hid r3
    have H4 := hid r4
    have H5 := hid r5
    by_cases hA : k < xs.length
    · by_cases hB : k < ys.length
      · skip
        obtain ⟨ga, oa, rfl, hca⟩ := sa (by omega)
        have cellA := (hca.below r5 (Nat.le_refl _)).2 k hA
        obtain ⟨x, hx⟩ : ∃ x, at0 xs k = x := ⟨_, rfl⟩
        rw [hx] at cellA dx
        obtain ⟨x0, x1⟩ := dx
        have HX := hid hx
        clear hx hca
        obtain ⟨gb, ob, rfl, hcb⟩ := sb (by omega)
        have cellB := (hcb.below r5 (Nat.le_refl _)).2 k hB
        obtain ⟨y, hy⟩ : ∃ y, at0 ys k = y := ⟨_, rfl⟩
        rw [hy] at cellB dy
        obtain ⟨y0, y1⟩ := dy
        have HY := hid hy
        clear hy hcb
        clear r1 r2 r3 r4 r5 sa sb da db
        go_wp2_with (at_builtin; refine wpList_append_own _ rfl _ _ 29 rfl w.heap.size 37 i0 (.int .u32 0) 1 4 Try.underlying29 I0.out I1.out I2.out I3.out rfl (by decide) _ _ _ rfl (H1.out.alloc _) ⟨wr.heap.size, 0, none⟩ 1 1 [.int .u32 ((x + 4294967296 - c - y) % 4294967296)] rfl rfl ?c1 ?c2 ?c3 ?c4 ?c5 ?_)
        case c1 => exact cell_new1 _ _ _
        case c2 => intro u hu; simp at hu; subst hu; rfl
        case c3 => unfold maxLen; omega
        case c4 => omega
        case c5 => simp; omega
        intro v' w1 hown' hgrow _
        have R := hid (minusR_step (s := x + 4294967296 - c - y) H1.out H2.out H3.out H4.out H5.out HX.out HY.out (by omega) hown' hgrow)
        clear hown' hgrow
        go_wp2
        go_roundw
        case rel => exact ⟨k + 1, 1 - (x + 4294967296 - c - y) / 4294967296, by go_num, by go_num, by omega, by omega, by omega, R.out⟩
        case measure => simp [intOf]; omega
      · skip
        obtain ⟨ga, oa, rfl, hca⟩ := sa (by omega)
        have cellA := (hca.below r5 (Nat.le_refl _)).2 k hA
        obtain ⟨x, hx⟩ : ∃ x, at0 xs k = x := ⟨_, rfl⟩
        rw [hx] at cellA dx
        obtain ⟨x0, x1⟩ := dx
        have HX := hid hx
        clear hx hca
        have HY := hid (show at0 ys k = 0 by unfold at0; rw [List.getElem?_eq_none (by omega)]; rfl)
        clear r1 r2 r3 r4 r5 sa sb da db
        go_wp2_with (at_builtin; refine wpList_append_own _ rfl _ _ 29 rfl w.heap.size 37 i0 (.int .u32 0) 1 4 Try.underlying29 I0.out I1.out I2.out I3.out rfl (by decide) _ _ _ rfl (H1.out.alloc _) ⟨wr.heap.size, 0, none⟩ 1 1 [.int .u32 ((x + 4294967296 - c) % 4294967296)] rfl rfl ?c1 ?c2 ?c3 ?c4 ?c5 ?_)
        case c1 => exact cell_new1 _ _ _
        case c2 => intro u hu; simp at hu; subst hu; rfl
        case c3 => unfold maxLen; omega
        case c4 => omega
        case c5 => simp; omega
        intro v' w1 hown' hgrow _
        have R := hid (minusR_step (s := x + 4294967296 - c) H1.out H2.out H3.out H4.out H5.out HX.out HY.out (by omega) hown' hgrow)
        clear hown' hgrow
        go_wp2
        go_roundw
        case rel => exact ⟨k + 1, 1 - (x + 4294967296 - c) / 4294967296, by go_num, by go_num, by omega, by omega, by omega, R.out⟩
        case measure => simp [intOf]; omega
    · have hR := hid (rd_of_owns r1 r2)
      have hV : val rs = val xs - val ys := by
        rw [val_take_all xs k (by omega), val_take_all ys k (by omega)] at r4
        have h1 := val_lt rs r3
        rw [r2] at h1
        have h2 := HL.out
        have hc : c = 0 ∨ c = 1 := by omega
        rcases hc with hc | hc
        · rw [hc] at r4; omega
        · rw [hc] at r4; omega
      have HV := hid hV
      clear r1 r2 r3 r4 r5 sa sb da db hV
      go_wp2_with fail
      refine (trimmed_any wr _ rs hR.out H3.out).mono ?_
      rintro e w1 ⟨⟨u, rfl, hu⟩, rfl⟩
      have HU := hid hu
      clear hu
      go_wp2
      go_ret
      exact ⟨⟨u, rfl, by rw [← HV.out]; exact HU.out⟩, H5.out⟩

theorem minus_any (w : World) (u v : Value) (x y : Int) (hu : Bn w u x) (hv : Bn w v y) (hx : x < pw 1000) (hy : y ≤ x) :
    Calls Try.prog 45 #[u, v] w fun e w' => (∃ r, e = .returned r ∧ Bn w' r (x - y)) ∧ Below w.heap.size w w' := by
  obtain ⟨xs, x1, x2, x3, rfl⟩ := hu
  obtain ⟨ys, y1, y2, y3, rfl⟩ := hv
  obtain ⟨a, ca, rfl, a1, a2⟩ := x1.shape
  obtain ⟨b, cb, rfl, b1, b2⟩ := y1.shape
  exact minus_walk w xs ys a b ca cb (len_le xs x2 x3 1000 hx) (len_le ys y2 y3 _ (by have := val_lt xs x2; omega)) x2 y2 hy a2 b2
end Go.Proofs.Ythikjpccmplbiaa
