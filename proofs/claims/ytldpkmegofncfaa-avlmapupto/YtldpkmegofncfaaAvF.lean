/-
  outermost, down. Written by mkf.py.
-/
import Derived.Test.YtldpkmegofncfaaAvE
namespace Go.Proofs.Ytldpkmegofncfaa
open Go.RowKit Go.Deep
set_option linter.unusedVariables false
set_option linter.unusedSimpArgs false

set_option maxHeartbeats 1000000 in
theorem out0 {w : World} {t : T} {p : Option Nat} (h : Tr w t p) :
    Calls Try.prog 46 #[pb p, .int .i64 0] w fun e w' => ∃ q, e = .returned (pb q) ∧ Tr w t.outL q ∧ w' = w := by
  have HT := hid h
  obtain ⟨z, hz⟩ : ∃ z, pa p = z := ⟨_, rfl⟩
  have HZ := hid hz
  simp only [pb, hz]
  clear h hz
  go_enter Try.func46, Try.ntmps46
  go_wp2_with fail
  go_loopw [0] (fun nv wr => ∃ s q, nv = .pointer (pa q) ∧ wr = w ∧ Hid (Tr w s q) ∧ Hid (s.outL = t.outL)) (fun nv wr => hOf wr nv)
  case atStart => exact ⟨t, p, by rw [HZ.out], rfl, HT, rfl⟩
  case round =>
    obtain ⟨s, q, rfl, rfl, HS, HE⟩ := hrel
    cases s with
    | nil =>
      obtain rfl := HS.out.ofNil
      simp only [pa]
      go_wp2_with fail
      go_ret
      exact ⟨none, rfl, by rw [← HE.out]; exact HS.out, rfl⟩
    | nd k v l r =>
      obtain ⟨b, rfl⟩ := HS.out.ofNd
      have HH := hid (hOf_tr HS.out)
      obtain ⟨pl, pr, -, hl, hr, -, -, c2, c3⟩ := HS.out.cells
      cases l with
      | nil =>
        obtain rfl := hl.ofNil
        simp only [pa] at *
        clear hl hr
        go_wp2_with fail
        go_ret
        exact ⟨some b, rfl, by rw [← HE.out]; exact HS.out, rfl⟩
      | nd a c x y =>
        obtain ⟨b2, rfl⟩ := hl.ofNd
        have HL := hid hl
        simp only [pa] at c2 ⊢
        clear hl hr
        go_wp2_with fail
        go_roundw
        case rel => exact ⟨.nd a c x y, some b2, rfl, by first | trivial | rfl, HL, HE⟩
        case measure =>
          have h1 := HH.out
          have h2 := hOf_tr HL.out
          simp only [pa] at h1 h2
          rw [h1, h2]
          simp only [T.h]; omega

set_option maxHeartbeats 1000000 in
theorem out1 {w : World} {t : T} {p : Option Nat} (h : Tr w t p) :
    Calls Try.prog 46 #[pb p, .int .i64 1] w fun e w' => ∃ q, e = .returned (pb q) ∧ Tr w t.outR q ∧ w' = w := by
  have HT := hid h
  obtain ⟨z, hz⟩ : ∃ z, pa p = z := ⟨_, rfl⟩
  have HZ := hid hz
  simp only [pb, hz]
  clear h hz
  go_enter Try.func46, Try.ntmps46
  go_wp2_with fail
  go_loopw [0] (fun nv wr => ∃ s q, nv = .pointer (pa q) ∧ wr = w ∧ Hid (Tr w s q) ∧ Hid (s.outR = t.outR)) (fun nv wr => hOf wr nv)
  case atStart => exact ⟨t, p, by rw [HZ.out], rfl, HT, rfl⟩
  case round =>
    obtain ⟨s, q, rfl, rfl, HS, HE⟩ := hrel
    cases s with
    | nil =>
      obtain rfl := HS.out.ofNil
      simp only [pa]
      go_wp2_with fail
      go_ret
      exact ⟨none, rfl, by rw [← HE.out]; exact HS.out, rfl⟩
    | nd k v l r =>
      obtain ⟨b, rfl⟩ := HS.out.ofNd
      have HH := hid (hOf_tr HS.out)
      obtain ⟨pl, pr, -, hl, hr, -, -, c2, c3⟩ := HS.out.cells
      cases r with
      | nil =>
        obtain rfl := hr.ofNil
        simp only [pa] at *
        clear hl hr
        go_wp2_with fail
        go_ret
        exact ⟨some b, rfl, by rw [← HE.out]; exact HS.out, rfl⟩
      | nd a c x y =>
        obtain ⟨b2, rfl⟩ := hr.ofNd
        have HL := hid hr
        simp only [pa] at c3 ⊢
        clear hl hr
        go_wp2_with fail
        go_roundw
        case rel => exact ⟨.nd a c x y, some b2, rfl, by first | trivial | rfl, HL, HE⟩
        case measure =>
          have h1 := HH.out
          have h2 := hOf_tr HL.out
          simp only [pa] at h1 h2
          rw [h1, h2]
          simp only [T.h]; omega

theorem T.way_l {key k v : Int} {l r : T} (h1 : ¬ key = k) (h2 : key < k) : (T.nd k v l r).way key = [T.nd k v l r] ++ l.way key := by rw [T.way, if_neg h1, if_pos h2]; rfl
theorem T.way_r {key k v : Int} {l r : T} (h1 : ¬ key = k) (h2 : ¬ key < k) : (T.nd k v l r).way key = [T.nd k v l r] ++ r.way key := by rw [T.way, if_neg h1, if_neg h2]; rfl
theorem T.find_l {key k v : Int} {l r : T} (h1 : ¬ key = k) (h2 : key < k) : (T.nd k v l r).find key = l.find key := by rw [T.find, if_neg h1, if_pos h2]
theorem T.find_r {key k v : Int} {l r : T} (h1 : ¬ key = k) (h2 : ¬ key < k) : (T.nd k v l r).find key = r.find key := by rw [T.find, if_neg h1, if_neg h2]
/-- the trees on a way. -/
def Ws (w : World) : List T → List Nat → Prop
  | [], [] => True
  | t :: ts, b :: bs => Tr w t (some b) ∧ Ws w ts bs
  | _, _ => False
theorem Ws.same {w w' : World} : ∀ {ts : List T} {bs : List Nat}, Ws w ts bs → (∀ t b, Tr w t (some b) → Tr w' t (some b)) → Ws w' ts bs
  | [], [] => fun _ _ => trivial
  | t :: ts, b :: bs => fun h hs => ⟨hs _ _ h.1, Ws.same h.2 hs⟩
  | [], _ :: _ => fun h _ => h.elim
  | _ :: _, [] => fun h _ => h.elim
theorem Ws.len {w : World} : ∀ {ts : List T} {bs : List Nat}, Ws w ts bs → ts.length = bs.length
  | [], [] => fun _ => rfl
  | t :: ts, b :: bs => fun h => by simp [Ws.len h.2]
  | [], _ :: _ => fun h => h.elim
  | _ :: _, [] => fun h => h.elim
theorem Ws.snoc {w : World} : ∀ {ts : List T} {bs : List Nat} {t : T} {b : Nat}, Ws w ts bs → Tr w t (some b) → Ws w (ts ++ [t]) (bs ++ [b])
  | [], [], _, _ => fun _ h => ⟨h, trivial⟩
  | t :: ts, b :: bs, _, _ => fun h k => ⟨h.1, Ws.snoc h.2 k⟩
  | [], _ :: _, _, _ => fun h _ => h.elim
  | _ :: _, [], _, _ => fun h _ => h.elim
theorem Ws.last {w : World} : ∀ {ts : List T} {bs : List Nat} {b : Nat}, Ws w ts (bs ++ [b]) → ∃ us t, ts = us ++ [t] ∧ Ws w us bs ∧ Tr w t (some b)
  | [], [], _ => fun h => h.elim
  | t :: ts, [], b => by
    intro h
    cases ts with
    | nil => exact ⟨[], t, rfl, trivial, h.1⟩
    | cons _ _ => exact h.2.elim
  | [], _ :: _, _ => fun h => h.elim
  | t :: ts, c :: bs, b => by
    intro h
    obtain ⟨us, u, rfl, h1, h2⟩ := Ws.last h.2
    exact ⟨t :: us, u, rfl, ⟨h.1, h1⟩, h2⟩
set_option maxHeartbeats 2000000 in
set_option maxRecDepth 100000 in
theorem down_any {w : World} {P : Nat} {t : T} {p : Option Nat} (hP : Pa w P []) (h : Tr w t p) (hh : t.h ≤ 44) (key : Int) :
    Calls Try.prog 37 #[.pointer (some ⟨P, 0, none⟩), pb p, .int .i64 key] w fun e w' => ∃ q bs, e = .returned (pb q) ∧ Tr w' (t.find key) q ∧ Pa w' P bs ∧ Ws w' (t.way key) bs ∧ Ko P w w' := by
  have HT := hid h
  have HP := hid hP
  have HM := hid hh
  obtain ⟨z, hz⟩ : ∃ z, pa p = z := ⟨_, rfl⟩
  have HZ := hid hz
  simp only [pb, hz]
  clear h hz hP hh
  have w1 : IntKind.i64.wrap 1 = 1 := by decide
  have w0 : IntKind.i64.wrap 0 = 0 := by decide
  go_enter Try.func37, Try.ntmps37
  go_wp2_with fail
  go_loopw [1] (fun nv wr => ∃ s q ts bs, nv = .pointer (pa q) ∧ Hid (Tr wr s q) ∧ Hid (Pa wr P bs) ∧ Hid (Ws wr ts bs) ∧ Hid (t.way key = ts ++ s.way key) ∧ Hid (t.find key = s.find key) ∧ Hid (ts.length + s.h ≤ t.h) ∧ Hid (Ko P w wr)) (fun nv wr => hOf wr nv)
  case atStart => exact ⟨t, p, [], [], by rw [HZ.out], HT, HP, trivial, rfl, rfl, by show [].length + t.h ≤ t.h; simp, Ko.refl _ _⟩
  case round =>
    obtain ⟨s, q, ts, bs, rfl, HS, HPP, HW, HE, HF, HL, HK⟩ := hrel
    cases s with
    | nil =>
      obtain rfl := HS.out.ofNil
      simp only [pa]
      go_wp2_with fail
      go_ret
      exact ⟨none, bs, rfl, by rw [HF.out]; exact HS.out, HPP.out, by rw [HE.out]; simpa [T.way] using HW.out, HK.out⟩
    | nd k v l r =>
      obtain ⟨b, rfl⟩ := HS.out.ofNd
      have HH := hid (hOf_tr HS.out)
      obtain ⟨pl, pr, -, hl, hr, c0, -, c2, c3⟩ := HS.out.cells
      by_cases hk : k = key
      · subst hk
        simp only [pa] at *
        have kk : (k == k) = true := by simp
        clear hl hr c2 c3
        go_wp2_with fail
        go_ret
        exact ⟨some b, bs, rfl, by rw [HF.out]; simp only [T.find, if_true]; exact HS.out, HPP.out, by rw [HE.out]; simpa [T.way] using HW.out, HK.out⟩
      · have hk1 : (k == key) = false := by simpa using hk
        have hk2 : ¬ key = k := fun e => hk e.symm
        have hlen := HW.out.len
        have hl44 : bs.length < 44 := by
          have := HL.out; have := HM.out
          simp only [T.h] at *
          omega
        have ST := hid (step_any HPP.out hl44 b)
        have HLT := hid HS.out.lt
        have HL2 := hid hl
        have HR2 := hid hr
        have HC := hid (And.intro c0 (And.intro c2 c3))
        obtain ⟨zl, hzl⟩ : ∃ z, pa pl = z := ⟨_, rfl⟩
        obtain ⟨zr, hzr⟩ : ∃ z, pa pr = z := ⟨_, rfl⟩
        rw [hzl, hzr] at HC
        have HZL := hid hzl
        have HZR := hid hzr
        clear hl hr c2 c3 hzl hzr hlen hl44
        simp only [pa] at c0 HH ⊢
        clear hk
        go_wp2_with (first | (go_at_call 49; with_reducible refine (ST.out).mono ?_; rintro e w1 ⟨rfl, hp1, hk1⟩; clear ST; have HP1 := hid hp1; have HK1 := hid hk1; clear hp1 hk1; refine Hid.out ?_))
        have hne : b ≠ P := by
          rintro rfl
          obtain ⟨cs, e1, _⟩ := HPP.out.row
          obtain ⟨_, _, e2, -⟩ := HS.out.cells
          rw [e2] at e1
          simp at e1
        obtain ⟨_, _, e2, -⟩ := HS.out.cells
        have e3 := HK1.out.row e2 hne
        have S1 := HS.out.ko HPP.out HK1.out
        obtain ⟨a0, a2, a3⟩ := HC.out
        have blk : ∀ j, w1.cell? ⟨b, j, none⟩ = wr.cell? ⟨b, j, none⟩ := fun j => (row_cell e3 j).trans (row_cell e2 j).symm
        have d0 : w1.cell? ⟨b, 0, none⟩ = some (.int .i64 k) := (blk 0).trans a0
        have d2 : w1.cell? ⟨b, 2, none⟩ = some (.pointer zl) := (blk 2).trans a2
        have d3 : w1.cell? ⟨b, 3, none⟩ = some (.pointer zr) := (blk 3).trans a3
        have d0d : w1.drew.cell? ⟨b, 0, none⟩ = some (.int .i64 k) := d0
        have d2d : w1.drew.cell? ⟨b, 2, none⟩ = some (.pointer zl) := d2
        have d3d : w1.drew.cell? ⟨b, 3, none⟩ = some (.pointer zr) := d3
        have HPX := hid HP1.out.drew
        have HKX := hid ((HK.out.trans HK1.out).trans (Ko.drew P w1))
        have HWX := hid ((HW.out.snoc HS.out).same (fun u c hu => (hu.ko HPP.out HK1.out).on (below_drews (b := w1.drew) rfl rfl rfl rfl)))
        have HLX := hid ((HL2.out.ko HPP.out HK1.out).on (below_drews (b := w1.drew) rfl rfl rfl rfl))
        have HRX := hid ((HR2.out.ko HPP.out HK1.out).on (below_drews (b := w1.drew) rfl rfl rfl rfl))
        have SD := hid (sideOf_any key k w1.drew)
        clear e2 e3 S1 a0 a2 a3 blk c0 hne
        refine hid ?_
        go_wp2_with fail
        by_cases hlt : key < k
        · have HNL := hid hlt
          simp only [sdI, hlt, if_true] at SD
          go_region_held3 (fun w' => w'.cell? ⟨b, 0, none⟩ = some (.int .i64 k) ∧ w'.cell? ⟨b, 2, none⟩ = some (.pointer zl) ∧ w'.cell? ⟨b, 3, none⟩ = some (.pointer zr)) (go_keep) (first | (go_at_call 44; with_reducible refine (SD.out).mono ?_; rintro e w9 ⟨rfl, rfl⟩))
          go_wp2_with fail
          go_roundw
          case rel => exact ⟨l, pl, ts ++ [.nd k v l r], bs ++ [b], (congrArg Value.pointer HZL.out).symm, HLX, HPX, HWX, hid (by rw [HE.out, T.way_l hk2 HNL.out, List.append_assoc]), hid (by rw [HF.out, T.find_l hk2 HNL.out]), hid (by have := HL.out; simp only [T.h, List.length_append, List.length_singleton] at *; omega), HKX⟩
          case measure =>
            have h1 := hOf_tr HLX.out
            rw [HZL.out] at h1
            rw [h1, HH.out]
            simp only [T.h]; omega
        · have HNL := hid hlt
          simp only [sdI, hlt, if_false] at SD
          go_region_held3 (fun w' => w'.cell? ⟨b, 0, none⟩ = some (.int .i64 k) ∧ w'.cell? ⟨b, 2, none⟩ = some (.pointer zl) ∧ w'.cell? ⟨b, 3, none⟩ = some (.pointer zr)) (go_keep) (first | (go_at_call 44; with_reducible refine (SD.out).mono ?_; rintro e w9 ⟨rfl, rfl⟩))
          go_wp2_with fail
          go_roundw
          case rel => exact ⟨r, pr, ts ++ [.nd k v l r], bs ++ [b], (congrArg Value.pointer HZR.out).symm, HRX, HPX, HWX, hid (by rw [HE.out, T.way_r hk2 (by have := HNL.out; omega), List.append_assoc]), hid (by rw [HF.out, T.find_r hk2 (by have := HNL.out; omega)]), hid (by have := HL.out; simp only [T.h, List.length_append, List.length_singleton] at *; omega), HKX⟩
          case measure =>
            have h1 := hOf_tr HRX.out
            rw [HZR.out] at h1
            rw [h1, HH.out]
            simp only [T.h]; omega
end Go.Proofs.Ytldpkmegofncfaa
