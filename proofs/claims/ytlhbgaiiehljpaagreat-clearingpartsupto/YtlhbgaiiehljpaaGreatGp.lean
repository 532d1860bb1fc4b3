/-
  TexM
-/
import Derived.Test.YtlhbgaiiehljpaaGreatGo
import Derived.Deep.OwnRows
import Derived.Laws.BytesArg

namespace Go.Proofs.YtlhbgaiiehljpaaGreat.TexM
set_option linter.unusedVariables false
def p10 (k : Nat) : Int := 10 ^ k
theorem p10_pos (k : Nat) : 0 < p10 k := Int.pow_pos (by decide)
theorem p10_succ (k : Nat) : p10 (k + 1) = 10 * p10 k := by unfold p10; rw [Int.pow_succ, Int.mul_comm]
theorem p10_add (a b : Nat) : p10 (a + b) = p10 a * p10 b := Int.pow_add _ _ _
theorem p10_le (a b : Nat) (h : a ≤ b) : p10 a ≤ p10 b := by
  obtain ⟨c, rfl⟩ := Nat.le.dest h
  rw [p10_add]
  have := Int.mul_le_mul_of_nonneg_left (show 1 ≤ p10 c by have := p10_pos c; omega) (Int.le_of_lt (p10_pos a))
  omega
/-- the lowest k digits and the point, the highest first. -/
def suf (n : Int) : Nat → List Int
  | 0 => []
  | k + 1 => (48 + n / p10 k % 10) :: (if k = 2 then 46 :: suf n k else suf n k)
theorem suf_len (n : Int) (k : Nat) : (suf n k).length = if k < 3 then k else k + 1 := by
  induction k with
  | zero => rfl
  | succ k ih =>
    simp only [suf]
    by_cases h : k = 2
    · subst h; rw [if_pos rfl]; simp only [List.length_cons, ih]; rfl
    · rw [if_neg h, List.length_cons, ih]
      by_cases h2 : k < 3
      · rw [if_pos h2, if_pos (by omega)]
      · rw [if_neg h2, if_neg (by omega)]
theorem div_step (n : Int) (k : Nat) : n / p10 k / 10 = n / p10 (k + 1) := by
  rw [p10_succ, Int.mul_comm, Int.ediv_ediv_of_nonneg (Int.le_of_lt (p10_pos k))]
/-- how many digits there are. -/
def Fin10 (n : Int) (K : Nat) : Prop := 3 ≤ K ∧ n / p10 K = 0 ∧ (K = 3 ∨ n / p10 (K - 1) ≠ 0)
theorem div_zero_iff (n : Int) (hn : 0 ≤ n) (k : Nat) : n / p10 k = 0 ↔ n < p10 k := by
  constructor
  · intro h
    by_cases hlt : n < p10 k
    · exact hlt
    · have : 1 ≤ n / p10 k := by rw [Int.le_ediv_iff_mul_le (p10_pos k)]; omega
      omega
  · intro h; exact Int.ediv_eq_zero_of_lt hn h
theorem fin10_unique (n : Int) (hn : 0 ≤ n) (K J : Nat) (hK : Fin10 n K) (hJ : Fin10 n J) : K = J := by
  obtain ⟨k1, k2, k3⟩ := hK
  obtain ⟨j1, j2, j3⟩ := hJ
  rw [div_zero_iff n hn] at k2 j2
  have key : ∀ A B : Nat, n < p10 A → (B = 3 ∨ n / p10 (B - 1) ≠ 0) → 3 ≤ A → B ≤ A := by
    intro A B h1 h2 h3
    rcases h2 with h2 | h2
    · omega
    · by_cases h : B ≤ A
      · exact h
      · have h4 := p10_le A (B - 1) (by omega)
        exact absurd ((div_zero_iff n hn (B - 1)).2 (by omega)) h2
  have a := key K J k2 j3 k1
  have b := key J K j2 k3 j1
  omega
/-- an amount's text. -/
def IsText (m : Int) (xs : List Int) : Prop := ∃ K, Fin10 (if m < 0 then -m else m) K ∧ xs = (if m < 0 then [45] else []) ++ suf (if m < 0 then -m else m) K
theorem isText_unique (m : Int) (xs ys : List Int) (hx : IsText m xs) (hy : IsText m ys) : xs = ys := by
  obtain ⟨K, h1, rfl⟩ := hx
  obtain ⟨J, h2, rfl⟩ := hy
  have := fin10_unique _ (by split <;> omega) K J h1 h2
  rw [this]
end Go.Proofs.YtlhbgaiiehljpaaGreat.TexM
namespace Go.Proofs.YtlhbgaiiehljpaaGreat
open Go.RowKit Go.Deep MonM TexM
set_option linter.unusedVariables false
theorem rowIs_below {w w' : World} {b : Nat} {t : TypeId} {n : Nat} {f : Nat → Value} (h : w.rowIs b t n f) (hb : Below w.heap.size w w') : w'.rowIs b t n f :=
  h.of_block (hb.block b h.lt)
/-- two words in a box. -/
def Two (wr : World) (b : Nat) (v : Int) : Prop := wr.rowIs b 33 2 (fun j => .int .u64 (if j = 0 then hiW v else loW v))
theorem Two.c0 {wr : World} {b : Nat} {v : Int} (h : Two wr b v) : wr.cell? ⟨b, 0, none⟩ = some (.int .u64 (hiW v)) := h.cell (i := 0) (by decide)
theorem Two.c1 {wr : World} {b : Nat} {v : Int} (h : Two wr b v) : wr.cell? ⟨b, 1, none⟩ = some (.int .u64 (loW v)) := h.cell (i := 1) (by decide)
theorem Two.f0 {wr : World} {b : Nat} {v : Int} (h : Two wr b v) : wr.frozen? ⟨b, 0, none⟩ = false := h.frozen 0
theorem Two.f1 {wr : World} {b : Nat} {v : Int} (h : Two wr b v) : wr.frozen? ⟨b, 1, none⟩ = false := h.frozen 1
theorem two_new (w : World) (v : Int) : Two (w.alloc (.cells #[.int .u64 (hiW v), .int .u64 (loW v)] 33)) w.heap.size v := by
  refine (World.rowIs_alloc w #[.int .u64 (hiW v), .int .u64 (loW v)] 33 (fun j => .int .u64 (if j = 0 then hiW v else loW v)) ?_)
  intro i hi
  have hi' : i < 2 := hi
  have : i = 0 ∨ i = 1 := by omega
  rcases this with rfl | rfl <;> rfl
theorem Two.set {wr : World} {b : Nat} {v : Int} (h : Two wr b v) (u : Int) : Two ((wr.setCell ⟨b, 0, none⟩ (.int .u64 (hiW u))).setCell ⟨b, 1, none⟩ (.int .u64 (loW u))) b u := by
  refine ((World.rowIs.set h 0 (.int .u64 (hiW u))).set 1 (.int .u64 (loW u))).congr ?_
  intro i hi
  have : i = 0 ∨ i = 1 := by omega
  rcases this with rfl | rfl <;> simp
/-- the state: the bytes xs stand from a on, v is what is left of the digits, m the amount. -/
def St (w : World) (Rb : Nat) (m v : Int) (xs : List Int) (a : Nat) (wr : World) : Prop :=
  (∃ g : Nat → Int, wr.rowIs (w.heap.size + 1) 121 41 (fun j => .int .u8 (g j)) ∧ (∀ i, i < xs.length → g (a + i) = xs[i]?.getD 0)) ∧ a + xs.length = 41 ∧
  Two wr Rb v ∧ Two wr w.heap.size m ∧ Below w.heap.size w wr ∧ w.heap.size + 1 < Rb
theorem St.to {w wr w' : World} {Rb a : Nat} {m v : Int} {xs : List Int} (h : St w Rb m v xs a wr) (hb : Below wr.heap.size wr w') : St w Rb m v xs a w' := by
  obtain ⟨⟨g, g1, g2⟩, h1, h2, h3, h4, h5⟩ := h
  exact ⟨⟨g, rowIs_below g1 hb, g2⟩, h1, rowIs_below h2 hb, rowIs_below h3 hb, btr h4 hb, h5⟩
theorem St.put {w wr : World} {Rb a : Nat} {m v : Int} {xs : List Int} (h : St w Rb m v xs (a + 1) wr) (x : Int) : St w Rb m v (x :: xs) a (wr.setCell ⟨w.heap.size + 1, a, none⟩ (.int .u8 x)) := by
  obtain ⟨⟨g, g1, g2⟩, h1, h2, h3, h4, h5⟩ := h
  refine ⟨⟨fun j => if j = a then x else g j, (g1.set a (.int .u8 x)).congr ?_, ?_⟩, by simp; omega, ?_, ?_, h4.setCell (by dsimp only; omega) _, h5⟩
  · intro i hi; by_cases h : i = a <;> simp [h]
  · intro i hi
    cases i with
    | zero => simp
    | succ i =>
      have := g2 i (by simpa using hi)
      show (if a + (i + 1) = a then x else g (a + (i + 1))) = _
      rw [if_neg (by omega)]
      simp only [List.getElem?_cons_succ]
      rw [← this, show a + (i + 1) = a + 1 + i from by omega]
  · exact World.rowIs.setOther h2 (by dsimp only; omega) _
  · exact World.rowIs.setOther h3 (by dsimp only; omega) _
theorem St.setR {w wr : World} {Rb a : Nat} {m v : Int} {xs : List Int} (h : St w Rb m v xs a wr) (u : Int) :
    St w Rb m u xs a ((wr.setCell ⟨Rb, 0, none⟩ (.int .u64 (hiW u))).setCell ⟨Rb, 1, none⟩ (.int .u64 (loW u))) := by
  obtain ⟨⟨g, g1, g2⟩, h1, h2, h3, h4, h5⟩ := h
  exact ⟨⟨g, (g1.setOther (by dsimp only; omega) _).setOther (by dsimp only; omega) _, g2⟩, h1, h2.set u, World.rowIs.setOther (World.rowIs.setOther h3 (by dsimp only; omega) _) (by dsimp only; omega) _, (h4.setCell (by dsimp only; omega) _).setCell (by dsimp only; omega) _, h5⟩
/-- what the walk asks of a state. -/
theorem St.ask {w wr : World} {Rb a : Nat} {m v : Int} {xs : List Int} (h : St w Rb m v xs a wr) (j : Nat) (hj : j < 41) :
    ∃ y : Int, wr.cell? ⟨w.heap.size + 1, j, none⟩ = some (.int .u8 y) ∧ wr.frozen? ⟨w.heap.size + 1, j, none⟩ = false := by
  obtain ⟨⟨g, g1, g2⟩, h1, h2, h3, h4, h5⟩ := h
  exact ⟨g j, g1.cell hj, g1.frozen j⟩
theorem St.conv {w wr : World} {Rb a : Nat} {m v : Int} {xs : List Int} (h : St w Rb m v xs a wr) (n c : Nat) (hn : xs.length = n) :
    (convert 124 9 (.slice (some ⟨w.heap.size + 1, a, none⟩) n c)).run Tryz.prog wr = .ok (.string (strOfNums xs)) wr := by
  obtain ⟨⟨g, g1, g2⟩, h1, h2, h3, h4, h5⟩ := h
  refine run_convert_bytes_arg wr 124 5 Tryz.underlying124 Tryz.underlying5 (w.heap.size + 1) a n c xs hn ?_ 9 Tryz.underlying9
  intro i hi
  rw [g1.cell (by omega), g2 i (by omega)]
  simp [List.getD]
theorem st_start (w w1 : World) (m v : Int) (cs : Array Value) (hrep : cs = Array.replicate 41 (.int .u8 0))
    (hb : Below ((w.alloc (.cells #[.int .u64 (hiW m), .int .u64 (loW m)] 33)).alloc (.cells cs 121)).heap.size ((w.alloc (.cells #[.int .u64 (hiW m), .int .u64 (loW m)] 33)).alloc (.cells cs 121)) w1) :
    St w w1.heap.size m v [] 41 (w1.alloc (.cells #[.int .u64 (hiW v), .int .u64 (loW v)] 33)) := by
  have hcs : cs.size = 41 := by rw [hrep]; simp
  have hz : ∀ i, i < 41 → cs[i]? = some (.int .u8 0) := by intro i hi; rw [hrep]; simp [hi]
  have hsz := hb.size
  simp at hsz
  refine ⟨⟨fun _ => 0, ?_, fun i hi => by simp at hi⟩, rfl, two_new w1 v, ?_, bal (btr (bal (bal (b0 w) _) _) hb) _, by omega⟩
  · have h0 := World.rowIs_alloc (w.alloc (.cells #[.int .u64 (hiW m), .int .u64 (loW m)] 33)) cs 121 (fun _ => .int .u8 0) (by rw [hcs]; exact hz)
    rw [hcs] at h0
    have h1 := rowIs_below h0 hb
    have h2 := h1.alloc (.cells #[.int .u64 (hiW v), .int .u64 (loW v)] 33)
    simpa using h2
  · have h0 := World.rowIs.alloc (two_new w m) (.cells cs 121)
    exact World.rowIs.alloc (rowIs_below h0 hb) _
end Go.Proofs.YtlhbgaiiehljpaaGreat
namespace Go.Proofs.YtlhbgaiiehljpaaGreat
open Go.RowKit Go.Deep MonM TexM
set_option linter.unusedVariables false
theorem p39 : p10 39 = 1000000000000000000000000000000000000000 := by decide
theorem k_le (n : Int) (h0 : 0 ≤ n) (h1 : n ≤ 170141183460469231731687303715884105727) (k : Nat) (h : n / p10 k ≠ 0) : k ≤ 38 := by
  by_cases hk : k ≤ 38
  · exact hk
  · have h2 := p10_le 39 k (by omega)
    rw [p39] at h2
    exact absurd ((div_zero_iff n h0 k).2 (by omega)) h
set_option maxHeartbeats 4000000 in
set_option maxRecDepth 100000 in
theorem text_walk (m : Int) (w : World) (hm : Amt m) :
    Calls Tryz.prog 18 #[mv m] w fun e w' => (∃ xs, IsText m xs ∧ e = .returned (.string (strOfNums xs))) ∧ Below w.heap.size w w' := by
  obtain ⟨n, hn⟩ : ∃ n, absI m = n := ⟨_, rfl⟩
  have n0 : 0 ≤ n := by rw [← hn]; unfold absI; split <;> omega
  have n1 : n ≤ 170141183460469231731687303715884105727 := by rw [← hn]; obtain ⟨a, b⟩ := hm; unfold absI; split <;> omega
  have S := hid (fun w => msize_any m w hm)
  rw [hn] at S
  have N := hid (fun w => sign_any m w hm)
  have HN := hid hn
  have HM := hid hm
  clear hn hm
  unfold mv at *
  go_enter Tryz.func18, Tryz.ntmps18
  go_wp2_with fail
  refine (S.out _).mono ?_
  rintro e w1 ⟨rfl, hb⟩
  have ST := hid (st_start w w1 m n _ rfl hb)
  clear hb
  obtain ⟨Rb, hRb⟩ : ∃ Rb, w1.heap.size = Rb := ⟨_, rfl⟩
  rw [hRb] at ST
  go_wp2_with fail
  clear hRb
  go_loopw [4, 6, 7] (fun av kv _ wr => ∃ (a k : Nat), av = .int .i64 a ∧ kv = .int .i64 k ∧ k ≤ 39 ∧ (k ≤ 3 ∨ n / p10 (k - 1) ≠ 0) ∧ Hid (St w Rb m (n / p10 k) (suf n k) a wr)) (fun _ kv _ _ => 40 - (intOf kv).toNat)
  case atStart => exact ⟨41, 0, rfl, rfl, by decide, Or.inl (by decide), by rw [show n / p10 0 = n from by simp [p10]]; exact ST⟩
  case round =>
    clear ST S
    obtain ⟨a, k, rfl, rfl, hk, hk2, HS⟩ := hrel
    have hlen := HS.out.2.1
    rw [suf_len] at hlen
    have v0 : 0 ≤ n / p10 k := Int.ediv_nonneg n0 (Int.le_of_lt (p10_pos k))
    have v1 : n / p10 k ≤ n := Int.ediv_le_self _ n0
    have hst := div_step n k
    obtain ⟨v, hv⟩ : ∃ v, n / p10 k = v := ⟨_, rfl⟩
    have HK := hid hk2
    have HV := hid hv
    rw [hv] at HS v0 v1 hst
    have HT := hid hst
    have HL := hid hlen
    clear hlen hv hst hk2
    have ne1 : ¬ (Rb = w.heap.size + 1) := by have := HS.out.2.2.2.2.2; omega
    have ne2 : ¬ (w.heap.size + 1 = Rb) := by omega
    have r0 := HS.out.2.2.1.c0
    have r1 := HS.out.2.2.1.c1
    have D := hid (fun w => lastDigit_any v w v0 (by omega))
    by_cases h2 : k < 2
    · obtain ⟨b, rfl⟩ : ∃ b, a = b + 1 := ⟨a - 1, by have := HL.out; rw [if_pos (by omega)] at this; omega⟩
      have hb41 : b < 41 := by have := HL.out; rw [if_pos (by omega)] at this; omega
      have z2 : ((k : Int) == 2) = false := by simp; omega
      have z3 : (k : Int) < 3 := by omega
      go_wp2_with fail
      refine (D.out _).mono ?_
      rintro e w2 ⟨rfl, hb⟩
      have HS2 := hid (HS.out.to hb)
      clear hb r0 r1
      obtain ⟨y, cy, fy⟩ := HS2.out.ask b hb41
      have r0 := HS2.out.2.2.1.c0
      have r1 := HS2.out.2.2.1.c1
      have g0 := HS2.out.2.2.1.f0
      have g1 := HS2.out.2.2.1.f1
      have HF := hid ((HS2.out.setR (v / 10)).put (48 + v % 10))
      go_wp2
      go_roundw
      case rel => exact ⟨b, k + 1, rfl, by go_num, by omega, Or.inl (by omega), by
        show St w Rb m (n / p10 (k + 1)) (suf n (k + 1)) b _
        rw [← HT.out]
        simp only [suf]
        rw [if_neg (by omega), HV.out]
        exact HF.out⟩
      case measure => simp [intOf]; omega
    · by_cases h3 : k = 2
      · subst h3
        obtain ⟨b, rfl⟩ : ∃ b, a = b + 1 + 1 := ⟨a - 2, by have := HL.out; rw [if_pos (by omega)] at this; omega⟩
        have hb41 : b < 41 := by have := HL.out; rw [if_pos (by omega)] at this; omega
        have hb42 : b + 1 < 41 := by have := HL.out; rw [if_pos (by omega)] at this; omega
        obtain ⟨y1, cy1, fy1⟩ := HS.out.ask (b + 1) hb42
        have HS1 := hid (HS.out.put 46)
        have HR0 := hid HS1.out.2.2.1.c0
        have HR1 := hid HS1.out.2.2.1.c1
        go_wp2_with fail
        refine (D.out _).mono ?_
        rintro e w2 ⟨rfl, hb⟩
        have HS2 := hid (HS1.out.to hb)
        clear hb r0 r1
        obtain ⟨y, cy, fy⟩ := HS2.out.ask b hb41
        have r0 := HS2.out.2.2.1.c0
        have r1 := HS2.out.2.2.1.c1
        have g0 := HS2.out.2.2.1.f0
        have g1 := HS2.out.2.2.1.f1
        have HF := hid ((HS2.out.setR (v / 10)).put (48 + v % 10))
        go_wp2
        go_roundw
        case rel => exact ⟨b, 2 + 1, rfl, by go_num, by omega, Or.inl (by omega), by
          show St w Rb m (n / p10 (2 + 1)) ((48 + n / p10 2 % 10) :: (46 :: suf n 2)) b _
          rw [← HT.out, HV.out]
          exact HF.out⟩
        case measure => simp [intOf]
      · have z2 : ((k : Int) == 2) = false := by simp; omega
        have z3 : decide ((k : Int) < 3) = false := by simp; omega
        have hl := HL.out
        rw [if_neg (by omega)] at hl
        by_cases hv0 : v = 0
        · have C := hid (fun w => sign_any 0 w (by unfold Amt; omega))
          have es : sgn 0 = 0 := rfl
          rw [es] at C
          subst hv0
          clear es D
          go_wp2_with fail
          refine (C.out _).mono ?_
          rintro e w3 ⟨rfl, hb⟩
          have HS3 := hid (HS.out.to hb)
          clear hb r0 r1
          have r0 := HS3.out.2.2.2.1.c0
          have r1 := HS3.out.2.2.2.1.c1
          have HF := hid (show Fin10 n k from ⟨by omega, HV.out, by rcases HK.out with h | h; left; omega; right; exact h⟩)
          go_wp2_with fail
          refine (N.out _).mono ?_
          rintro e w4 ⟨rfl, hb⟩
          have HS4 := hid (HS3.out.to hb)
          clear hb r0 r1
          by_cases hm0 : m < 0
          · have es : sgn m = -1 := if_pos hm0
            rw [es]
            obtain ⟨b, rfl⟩ : ∃ b, a = b + 1 := ⟨a - 1, by omega⟩
            obtain ⟨y, cy, fy⟩ := HS4.out.ask b (by omega)
            have HS5 := hid (HS4.out.put 45)
            have hcv := HS5.out.conv (41 - b) (41 - b) (by have := HS5.out.2.1; omega)
            have HT2 := hid (show IsText m (45 :: suf n k) from ⟨k, by rw [if_pos hm0]; have h := HN.out; unfold absI at h; rw [if_pos hm0] at h; rw [h]; exact HF.out, by rw [if_pos hm0, if_pos hm0]; have h := HN.out; unfold absI at h; rw [if_pos hm0] at h; rw [h]; rfl⟩)
            clear es
            have b1 : (b : Int) ≤ 41 := by omega
            go_wp2
            go_ret
            exact ⟨⟨_, HT2.out, rfl⟩, HS5.out.2.2.2.2.1⟩
          · have es : 0 ≤ sgn m := by unfold sgn; rw [if_neg hm0]; split <;> decide
            generalize sgn m = s at *
            have hcv := HS4.out.conv (41 - a) (41 - a) (by have := HS4.out.2.1; omega)
            have HT2 := hid (show IsText m (suf n k) from ⟨k, by rw [if_neg hm0]; have h := HN.out; unfold absI at h; rw [if_neg hm0] at h; rw [h]; exact HF.out, by rw [if_neg hm0, if_neg hm0]; have h := HN.out; unfold absI at h; rw [if_neg hm0] at h; rw [h]; rfl⟩)
            have b1 : (a : Int) ≤ 41 := by omega
            go_wp2
            go_ret
            exact ⟨⟨_, HT2.out, rfl⟩, HS4.out.2.2.2.2.1⟩
        · have hk38 := k_le n n0 n1 k (by rw [HV.out]; exact hv0)
          obtain ⟨b, rfl⟩ : ∃ b, a = b + 1 := ⟨a - 1, by omega⟩
          have hb41 : b < 41 := by omega
          have C := hid (fun w => sign_any v w (by unfold Amt; omega))
          have es : sgn v = 1 := by unfold sgn; rw [if_neg (by omega), if_pos (by omega)]
          rw [es] at C
          clear es hl
          go_wp2_with fail
          refine (C.out _).mono ?_
          rintro e w3 ⟨rfl, hb⟩
          have HS1 := hid (HS.out.to hb)
          clear hb r0 r1
          have r0 := HS1.out.2.2.1.c0
          have r1 := HS1.out.2.2.1.c1
          go_wp2_with fail
          refine (D.out _).mono ?_
          rintro e w2 ⟨rfl, hb⟩
          have HS2 := hid (HS1.out.to hb)
          clear hb r0 r1
          obtain ⟨y, cy, fy⟩ := HS2.out.ask b hb41
          have r0 := HS2.out.2.2.1.c0
          have r1 := HS2.out.2.2.1.c1
          have g0 := HS2.out.2.2.1.f0
          have g1 := HS2.out.2.2.1.f1
          have HF := hid ((HS2.out.setR (v / 10)).put (48 + v % 10))
          go_wp2
          go_roundw
          case rel => exact ⟨b, k + 1, rfl, by go_num, by omega, Or.inr (by rw [Nat.add_sub_cancel, HV.out]; exact hv0), by
            show St w Rb m (n / p10 (k + 1)) (suf n (k + 1)) b _
            rw [← HT.out]
            simp only [suf]
            rw [if_neg h3, HV.out]
            exact HF.out⟩
          case measure => simp [intOf]; omega
end Go.Proofs.YtlhbgaiiehljpaaGreat
