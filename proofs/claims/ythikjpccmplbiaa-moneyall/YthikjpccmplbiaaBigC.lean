/-
  The document's plus.
-/
import Derived.Test.YthikjpccmplbiaaBigB
namespace Go.Proofs.Ythikjpccmplbiaa
open Go.RowKit BigM
set_option linter.unusedVariables false

theorem rd_of_owns {w : World} {base k : Nat} {v : Value} {rs : List Int} (h : w.ownsRow base 37 1 v k (rs.map (Value.int .u32))) (hl : rs.length = k) : Rd w v rs := by
  rcases h.2 with ⟨rfl, h0⟩ | ⟨g, cap, cur, rfl, hb, hg, h1, h2, h3, h4⟩
  · left; refine ⟨rfl, ?_⟩
    cases rs with
    | nil => rfl
    | cons x r => simp at hl; omega
  · right
    refine ⟨g, 0, cap, by rw [hl], by omega, h2, ⟨cur, hg⟩, ?_⟩
    intro j hj
    have := h.cells (g := g) rfl j (.int .u32 (at0 rs j)) (by simp [at0, hj])
    have hadd : (⟨g, 0, none⟩ : Addr).add j = ⟨g, 0 + j, none⟩ := by unfold Addr.add; split <;> simp_all
    rw [hadd] at this
    exact this

/-- what has been gathered of a sum, k places on. -/
def PlusR (w : World) (xs ys : List Int) (v : Value) (c : Int) (k : Nat) (wr : World) : Prop :=
  ∃ rs : List Int, wr.ownsRow w.heap.size 37 1 v k (rs.map (Value.int .u32)) ∧ rs.length = k ∧ Dig rs ∧ val rs + pw k * c = val (xs.take k) + val (ys.take k) ∧ Below w.heap.size w wr

theorem plusR_start (w : World) (xs ys : List Int) : PlusR w xs ys (.slice (some ⟨w.heap.size, 0, none⟩) 0 0) 0 0 (w.alloc (.cells #[] 37)) :=
  ⟨[], World.ownsRow_made w #[] 0 (Nat.le_refl _) (Nat.zero_le _) rfl, rfl, dig_nil, by simp [val], (Below.refl _ _).alloc (Nat.le_refl _) _⟩

theorem plusR_step {w wr w1 : World} {xs ys rs : List Int} {v v' : Value} {c x y s : Int} {k : Nat} {o : Obj}
    (h1 : wr.ownsRow w.heap.size 37 1 v k (rs.map (Value.int .u32))) (h2 : rs.length = k) (h3 : Dig rs) (h4 : val rs + pw k * c = val (xs.take k) + val (ys.take k)) (h5 : Below w.heap.size w wr)
    (hx : at0 xs k = x) (hy : at0 ys k = y) (hs : s = c + x + y)
    (hown : w1.ownsRow w.heap.size 37 1 v' (k + 1) (rs.map (Value.int .u32) ++ [.int .u32 (s % 4294967296)]))
    (hg : (wr.alloc o).grownBy w1 v.ownBlock) : PlusR w xs ys v' (s / 4294967296) (k + 1) w1 := by
  subst hs
  refine ⟨rs ++ [(c + x + y) % 4294967296], ?_, by simp [h2], h3.snoc (by omega) (by omega), ?_, ?_⟩
  · simpa using hown
  · rw [val_snoc, h2, val_take_step xs k, val_take_step ys k, hx, hy, pw_succ]
    have e : pw k * (c + x + y) = pw k * ((c + x + y) % 4294967296) + 4294967296 * pw k * ((c + x + y) / 4294967296) := by
      have : c + x + y = (c + x + y) % 4294967296 + 4294967296 * ((c + x + y) / 4294967296) := by omega
      conv => lhs; rw [this]
      rw [Int.mul_add, ← Int.mul_assoc, Int.mul_comm (pw k) 4294967296]
    rw [Int.mul_add, Int.mul_add] at e
    omega
  · exact (h5.alloc h5.size o).grown hg (by have := h5.size; simp; omega) (fun j hj => (h1.lt j hj).1)

theorem cell_new1 (w : World) (x : Value) (t : TypeId) : ∀ (j : Nat) (u : Value), [x][j]? = some u → (w.alloc (.cells #[x] t)).cell? ((⟨w.heap.size, 0, none⟩ : Addr).add j) = some u := by
  intro j u hj
  match j, hj with
  | 0, hj => simp at hj; subst hj; simp [Addr.add, go_sem]

set_option maxHeartbeats 2000000 in
set_option maxRecDepth 100000 in
theorem plus_walk (w : World) (xs ys : List Int) (a b : Option Addr) (ca cb : Nat) (ha : xs.length ≤ 1000) (hb : ys.length ≤ 1000) (da : Dig xs) (db : Dig ys)
    (sa : 0 < xs.length → ∃ g o, a = some ⟨g, o, none⟩ ∧ CellsAt w g o xs) (sb : 0 < ys.length → ∃ g o, b = some ⟨g, o, none⟩ ∧ CellsAt w g o ys) :
    Calls Try.prog 40 #[.slice a xs.length ca, .slice b ys.length cb] w fun e w' => (∃ u, e = .returned u ∧ Bn w' u (val xs + val ys)) ∧ Below w.heap.size w w' := by
  obtain ⟨i0, hi, hz0, hz1, hz2⟩ := info_parts info51
  have I0 := hid hi
  have I1 := hid hz0
  have I2 := hid hz1
  have I3 := hid hz2
  clear hi hz0 hz1 hz2
  go_enter Try.func40, Try.ntmps40
  go_wp2
  go_loopw [5, 6, 7] (fun v cv iv wr => ∃ (k : Nat) (c : Int), iv = .int .i64 k ∧ cv = .int .u64 c ∧ 0 ≤ c ∧ c ≤ 1 ∧ (k ≤ max xs.length ys.length ∨ k = max xs.length ys.length + 1 ∧ c = 0) ∧ PlusR w xs ys v c k wr)
    (fun _ cv iv _ => 2 * (max xs.length ys.length - (intOf iv).toNat) + (intOf cv).toNat)
  case atStart => exact ⟨0, 0, rfl, rfl, by decide, by decide, Or.inl (Nat.zero_le _), plusR_start w xs ys⟩
  case round =>
    obtain ⟨k, c, rfl, rfl, c0, c1, hk, rs, r1, r2, r3, r4, r5⟩ := hrel
    have dx := at0_dig xs da k
    have dy := at0_dig ys db k
    have hsz := r5.size
    have H1 := hid r1
    have H2 := hid r2
    have H3 := hid r3
    have H4 := hid r4
    have H5 := hid r5
    have HK := hid hk
    have hk1 : k ≤ 1001 := by omega
    by_cases hA : k < xs.length
    · by_cases hB : k < ys.length
      · skip
        obtain ⟨ga, oa, rfl, hca⟩ := sa (by omega)
        have cellA := (hca.below r5 (Nat.le_refl _)).2 k hA
        obtain ⟨x, hx⟩ : ∃ x, at0 xs k = x := ⟨_, rfl⟩
        rw [hx] at cellA dx
        obtain ⟨x0, x1⟩ := dx
        have HX := hid hx
        clear hx hca
        obtain ⟨gb, ob, rfl, hcb⟩ := sb (by omega)
        have cellB := (hcb.below r5 (Nat.le_refl _)).2 k hB
        obtain ⟨y, hy⟩ : ∃ y, at0 ys k = y := ⟨_, rfl⟩
        rw [hy] at cellB dy
        obtain ⟨y0, y1⟩ := dy
        have HY := hid hy
        clear hy hcb
        clear hk r1 r2 r3 r4 r5 sa sb da db
        go_wp2_with (at_builtin; refine wpList_append_own _ rfl _ _ 29 rfl w.heap.size 37 i0 (.int .u32 0) 1 4 Try.underlying29 I0.out I1.out I2.out I3.out rfl (by decide) _ _ _ rfl (H1.out.alloc _) ⟨wr.heap.size, 0, none⟩ 1 1 [.int .u32 ((c + x + y) % 4294967296)] rfl rfl ?c1 ?c2 ?c3 ?c4 ?c5 ?_)
        case c1 => exact cell_new1 _ _ _
        case c2 => intro u hu; simp at hu; subst hu; rfl
        case c3 => unfold maxLen; omega
        case c4 => omega
        case c5 => simp; omega
        intro v' w1 hown' hgrow _
        have R := hid (plusR_step (s := c + x + y) H1.out H2.out H3.out H4.out H5.out HX.out HY.out (by omega) hown' hgrow)
        clear hown' hgrow
        go_wp2
        go_roundw
        case rel => exact ⟨k + 1, (c + x + y) / 4294967296, by go_num, by go_num, by omega, by omega, by have := HK.out; omega, R.out⟩
        case measure => simp [intOf]; omega
      · skip
        obtain ⟨ga, oa, rfl, hca⟩ := sa (by omega)
        have cellA := (hca.below r5 (Nat.le_refl _)).2 k hA
        obtain ⟨x, hx⟩ : ∃ x, at0 xs k = x := ⟨_, rfl⟩
        rw [hx] at cellA dx
        obtain ⟨x0, x1⟩ := dx
        have HX := hid hx
        clear hx hca
        have HY := hid (show at0 ys k = 0 by unfold at0; rw [List.getElem?_eq_none (by omega)]; rfl)
        clear hk r1 r2 r3 r4 r5 sa sb da db
        go_wp2_with (at_builtin; refine wpList_append_own _ rfl _ _ 29 rfl w.heap.size 37 i0 (.int .u32 0) 1 4 Try.underlying29 I0.out I1.out I2.out I3.out rfl (by decide) _ _ _ rfl (H1.out.alloc _) ⟨wr.heap.size, 0, none⟩ 1 1 [.int .u32 ((c + x) % 4294967296)] rfl rfl ?c1 ?c2 ?c3 ?c4 ?c5 ?_)
        case c1 => exact cell_new1 _ _ _
        case c2 => intro u hu; simp at hu; subst hu; rfl
        case c3 => unfold maxLen; omega
        case c4 => omega
        case c5 => simp; omega
        intro v' w1 hown' hgrow _
        have R := hid (plusR_step (s := c + x) H1.out H2.out H3.out H4.out H5.out HX.out HY.out (by omega) hown' hgrow)
        clear hown' hgrow
        go_wp2
        go_roundw
        case rel => exact ⟨k + 1, (c + x) / 4294967296, by go_num, by go_num, by omega, by omega, by have := HK.out; omega, R.out⟩
        case measure => simp [intOf]; omega
    · by_cases hB : k < ys.length
      · skip
        have HX := hid (show at0 xs k = 0 by unfold at0; rw [List.getElem?_eq_none (by omega)]; rfl)
        obtain ⟨gb, ob, rfl, hcb⟩ := sb (by omega)
        have cellB := (hcb.below r5 (Nat.le_refl _)).2 k hB
        obtain ⟨y, hy⟩ : ∃ y, at0 ys k = y := ⟨_, rfl⟩
        rw [hy] at cellB dy
        obtain ⟨y0, y1⟩ := dy
        have HY := hid hy
        clear hy hcb
        clear hk r1 r2 r3 r4 r5 sa sb da db
        go_wp2_with (at_builtin; refine wpList_append_own _ rfl _ _ 29 rfl w.heap.size 37 i0 (.int .u32 0) 1 4 Try.underlying29 I0.out I1.out I2.out I3.out rfl (by decide) _ _ _ rfl (H1.out.alloc _) ⟨wr.heap.size, 0, none⟩ 1 1 [.int .u32 ((c + y) % 4294967296)] rfl rfl ?c1 ?c2 ?c3 ?c4 ?c5 ?_)
        case c1 => exact cell_new1 _ _ _
        case c2 => intro u hu; simp at hu; subst hu; rfl
        case c3 => unfold maxLen; omega
        case c4 => omega
        case c5 => simp; omega
        intro v' w1 hown' hgrow _
        have R := hid (plusR_step (s := c + y) H1.out H2.out H3.out H4.out H5.out HX.out HY.out (by omega) hown' hgrow)
        clear hown' hgrow
        go_wp2
        go_roundw
        case rel => exact ⟨k + 1, (c + y) / 4294967296, by go_num, by go_num, by omega, by omega, by have := HK.out; omega, R.out⟩
        case measure => simp [intOf]; omega
      · by_cases hC : 0 < c
        · skip
          have HX := hid (show at0 xs k = 0 by unfold at0; rw [List.getElem?_eq_none (by omega)]; rfl)
          have HY := hid (show at0 ys k = 0 by unfold at0; rw [List.getElem?_eq_none (by omega)]; rfl)
          clear hk r1 r2 r3 r4 r5 sa sb da db
          go_wp2_with (at_builtin; refine wpList_append_own _ rfl _ _ 29 rfl w.heap.size 37 i0 (.int .u32 0) 1 4 Try.underlying29 I0.out I1.out I2.out I3.out rfl (by decide) _ _ _ rfl (H1.out.alloc _) ⟨wr.heap.size, 0, none⟩ 1 1 [.int .u32 (c % 4294967296)] rfl rfl ?c1 ?c2 ?c3 ?c4 ?c5 ?_)
          case c1 => exact cell_new1 _ _ _
          case c2 => intro u hu; simp at hu; subst hu; rfl
          case c3 => unfold maxLen; omega
          case c4 => omega
          case c5 => simp; omega
          intro v' w1 hown' hgrow _
          have R := hid (plusR_step (s := c) H1.out H2.out H3.out H4.out H5.out HX.out HY.out (by omega) hown' hgrow)
          clear hown' hgrow
          go_wp2
          go_roundw
          case rel => exact ⟨k + 1, (c) / 4294967296, by go_num, by go_num, by omega, by omega, by have := HK.out; omega, R.out⟩
          case measure => simp [intOf]; omega
        · have ec : c = 0 := by omega
          subst ec
          have hR := hid (rd_of_owns r1 r2)
          have hV : val rs = val xs + val ys := by rw [val_take_all xs k (by omega), val_take_all ys k (by omega)] at r4; omega
          have HV := hid hV
          clear hk r1 r2 r3 r4 r5 sa sb da db hV
          go_wp2_with fail
          refine (trimmed_any wr _ rs hR.out H3.out).mono ?_
          rintro e w1 ⟨⟨u, rfl, hu⟩, rfl⟩
          have HU := hid hu
          clear hu
          go_wp2
          go_ret
          exact ⟨⟨u, rfl, by rw [← HV.out]; exact HU.out⟩, H5.out⟩

theorem plus_any (w : World) (u v : Value) (x y : Int) (hu : Bn w u x) (hv : Bn w v y) (hx : x < pw 1000) (hy : y < pw 1000) :
    Calls Try.prog 40 #[u, v] w fun e w' => (∃ r, e = .returned r ∧ Bn w' r (x + y)) ∧ Below w.heap.size w w' := by
  obtain ⟨xs, x1, x2, x3, rfl⟩ := hu
  obtain ⟨ys, y1, y2, y3, rfl⟩ := hv
  obtain ⟨a, ca, rfl, a1, a2⟩ := x1.shape
  obtain ⟨b, cb, rfl, b1, b2⟩ := y1.shape
  exact plus_walk w xs ys a b ca cb (len_le xs x2 x3 1000 hx) (len_le ys y2 y3 1000 hy) x2 y2 a2 b2
end Go.Proofs.Ythikjpccmplbiaa
