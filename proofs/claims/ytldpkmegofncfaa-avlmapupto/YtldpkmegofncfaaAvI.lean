/-
  Put, Drop. Written by mki.py.
-/
import Derived.Test.YtldpkmegofncfaaAvH
namespace Go.Proofs.Ytldpkmegofncfaa
open Go.RowKit Go.Deep
set_option linter.unusedVariables false
set_option linter.unusedSimpArgs false
/-- a Tree in block B. -/
def Av (w : World) (B : Nat) (t : T) : Prop := ∃ p, w.heap[B]? = some (.cells #[.pointer (pa p)] 32 (0, 0)) ∧ Tr w t p
theorem Av.lt {w : World} {B : Nat} {t : T} (h : Av w B t) : B < w.heap.size := by
  obtain ⟨p, h1, _⟩ := h; exact row_lt h1
theorem Av.on {w w' : World} {B : Nat} {t : T} (h : Av w B t) (hb : Below w.heap.size w w') : Av w' B t := by
  obtain ⟨p, h1, h2⟩ := h
  exact ⟨p, row_on h1 hb, h2.on hb⟩
theorem Tr.koB {B : Nat} {w w' : World} {t : T} {p : Option Nat} {c : Array Value} (h : Tr w t p) (hB : w.heap[B]? = some (.cells c 32 (0, 0))) (hk : Ko B w w') : Tr w' t p := by
  refine h.same (fun b c hc => hk.row hc ?_)
  rintro rfl
  rw [hB] at hc
  simp at hc
/-- another tree stays. -/
theorem Av.ko {w w' : World} {A B : Nat} {t u : T} (h : Av w A t) (hB : Av w B u) (hk : Ko B w w') (hn : A ≠ B) : Av w' A t := by
  obtain ⟨p, h1, h2⟩ := h
  obtain ⟨q, h3, _⟩ := hB
  exact ⟨p, hk.row h1 hn, h2.koB h3 hk⟩
theorem av_set {w : World} {B : Nat} {t : T} {p : Option Nat} {c : Value} (hB : w.heap[B]? = some (.cells #[c] 32 (0, 0))) (h : Tr w t p) : Av (w.setCell ⟨B, 0, none⟩ (.pointer (pa p))) B t :=
  ⟨p, by rw [heap_setCell_same w B 0 _ 32 _ hB]; simp, h.koB hB (Ko.set _ _ _ _)⟩
theorem val_q {w : World} {t : T} {p : Option Nat} {z : Option Addr} (hz : pa p = z) (h : Tr w t p) : Calls Try.prog 41 #[.pointer z] w fun e w' => e = .returned (oV t.val) ∧ w' = w := by
  subst hz; exact valueOf_any h
theorem ko_of_below {B : Nat} {a b : World} {v : Value} (h : Below a.heap.size a b) : Ko B a (b.setCell ⟨B, 0, none⟩ v) := (Ko.of h).trans (Ko.set _ _ _ _)
/-- what makes a call go well. -/
structure Gd (t : T) : Prop where
  ok : T.ok t
  lim : t.n < 2971215072
theorem Gd.h {t : T} (g : Gd t) : t.h ≤ 44 := T.h_le g.ok.av g.lim

set_option maxHeartbeats 4000000 in
set_option maxRecDepth 100000 in
theorem put_nil {w : World} {B : Nat} {t : T} (h : Av w B t) (hg : Gd t) (key v : Int) (hf : t.find key = .nil) :
    Calls Try.prog 11 #[.pointer (some ⟨B, 0, none⟩), .int .i64 key, .int .i64 v] w fun e w' => e = .returned (oV (t.get key)) ∧ Av w' B (t.put key v) ∧ Ko B w w' := by
  have hlt := h.lt
  obtain ⟨p, h1, h2⟩ := h
  have hh := hg.h
  have hlim := hg.lim
  obtain ⟨z, hz⟩ : ∃ z, pa p = z := ⟨_, rfl⟩
  have c0 : w.cell? ⟨B, 0, none⟩ = some (.pointer z) := by rw [← hz]; exact row_cell h1 0
  have DN := hid (down_new hz h2 hh key w.heap.size (Nat.le_refl _) _ (pa_new w) (ball _ _))
  have H1 := hid h1
  have HH := hid hh
  have HL := hid hlim
  have HLT := hid hlt
  have HF := hid hf
  have hne : ¬ B = w.heap.size := by omega
  clear h1 h2 hh hlim hf hz hg
  go_enter Try.func11, Try.ntmps11
  go_wp2_with (first | (go_at_call 37; with_reducible refine (DN.out).mono ?_; rintro e w2 ⟨q2, bs, rfl, t2, p2, ws2, bl2, ko2⟩; clear DN; have HT2 := hid t2; have HP2 := hid p2; have HW2 := hid ws2; have HB2 := hid bl2; clear t2 p2 ws2 bl2 ko2; refine Hid.out ?_))
  have hT2 := HT2.out
  rw [HF.out] at hT2
  obtain rfl := hT2.ofNil
  simp only [pa]
  have LF := hid (leaf_any key v w2)
  simp only [pb, pa] at LF
  have UP := hid (show ∀ b3 w3, Below w2.heap.size w2 w3 → Tr w3 (.nd key v .nil .nil) (some b3) → Calls Try.prog 38 #[.pointer (some ⟨w.heap.size, 0, none⟩), .int .i64 key, .pointer (some ⟨b3, 0, none⟩)] w3 fun e w' => ∃ q, e = .returned (.pointer (pa q)) ∧ Tr w' (t.put key v) q ∧ Below w.heap.size w w' ∧ Ko w.heap.size w3 w' from by
    intro b3 w3 hb3 ht3
    exact up_q (T.hold key v) (p := some b3) rfl (HP2.out.on hb3) key (HW2.out.same (fun t c ht => ht.on hb3)) ht3 (by rw [HF.out]; rfl) HH.out (by have := HL.out; simp only [T.n]; omega) (btr HB2.out hb3) (Nat.le_refl _))
  have VL := hid (show ∀ w', Calls Try.prog 41 #[.pointer none] w' fun e w2 => e = .returned (oV none) ∧ w2 = w' from fun w' => val_q (p := none) (t := .nil) rfl rfl)
  clear hT2
  refine hid ?_
  go_wp2_with (first | (go_at_call 39; with_reducible refine (LF.out).mono ?_; rintro e w3 ⟨b3, rfl, t3, bl3⟩; clear LF; have HT3 := hid t3; have HB3 := hid bl3; clear t3 bl3) | (go_at_call 38; with_reducible refine (UP.out _ _ HB3.out HT3.out).mono ?_; rintro e w4 ⟨q4, rfl, t4, bl4, ko4⟩; clear UP; have HT4 := hid t4; have HB4 := hid bl4; clear t4 bl4 ko4; refine Hid.out ?_))
  have hrow := row_on H1.out HB4.out
  have c4 : w4.cell? ⟨B, 0, none⟩ = some (.pointer z) := (cell_on c0 HB4.out HLT.out)
  have f4 : w4.frozen? ⟨B, 0, none⟩ = false := frozen_of_row w4 B 0 _ _ hrow
  have HAV := hid (av_set hrow HT4.out)
  have HKO := hid (ko_of_below (B := B) (v := .pointer (pa q4)) HB4.out)
  have HG := hid (show t.get key = none from by unfold T.get; rw [HF.out]; rfl)
  obtain ⟨z4, hz4⟩ : ∃ z, pa q4 = z := ⟨_, rfl⟩
  rw [hz4] at HAV HKO ⊢
  clear hz4 hrow
  refine hid ?_
  go_wp2_with (first | (go_at_call 41; with_reducible refine (VL.out _).mono ?_; rintro e w5 ⟨rfl, rfl⟩; simp only [oV]))
  go_ret2
  refine ⟨?_, HAV.out, HKO.out⟩
  rw [HG.out]; rfl


set_option maxHeartbeats 4000000 in
set_option maxRecDepth 100000 in
theorem put_nd {w : World} {B : Nat} {t : T} (h : Av w B t) (hg : Gd t) (key v : Int) (hf : ∃ u x y, t.find key = .nd key u x y) :
    Calls Try.prog 11 #[.pointer (some ⟨B, 0, none⟩), .int .i64 key, .int .i64 v] w fun e w' => e = .returned (oV (t.get key)) ∧ Av w' B (t.put key v) ∧ Ko B w w' := by
  have hlt := h.lt
  obtain ⟨p, h1, h2⟩ := h
  have hh := hg.h
  have hlim := hg.lim
  obtain ⟨z, hz⟩ : ∃ z, pa p = z := ⟨_, rfl⟩
  have c0 : w.cell? ⟨B, 0, none⟩ = some (.pointer z) := by rw [← hz]; exact row_cell h1 0
  have DN := hid (down_new hz h2 hh key w.heap.size (Nat.le_refl _) _ (pa_new w) (ball _ _))
  have H1 := hid h1
  have HH := hid hh
  have HL := hid hlim
  have HLT := hid hlt
  have HF := hid hf
  have hne : ¬ B = w.heap.size := by omega
  clear h1 h2 hh hlim hf hz hg
  go_enter Try.func11, Try.ntmps11
  go_wp2_with (first | (go_at_call 37; with_reducible refine (DN.out).mono ?_; rintro e w2 ⟨q2, bs, rfl, t2, p2, ws2, bl2, ko2⟩; clear DN; have HT2 := hid t2; have HP2 := hid p2; have HW2 := hid ws2; have HB2 := hid bl2; clear t2 p2 ws2 bl2 ko2; refine Hid.out ?_))
  obtain ⟨u, x, y, hf⟩ := HF.out
  have hT2 := HT2.out
  rw [hf] at hT2
  obtain ⟨b2, rfl⟩ := hT2.ofNd
  simp only [pa]
  have HF2 := hid hf
  have LF := hid (holding_any hT2 key v)
  simp only [pb, pa] at LF
  have UP := hid (show ∀ b3 w3, Below w2.heap.size w2 w3 → Tr w3 (.nd key v x y) (some b3) → Calls Try.prog 38 #[.pointer (some ⟨w.heap.size, 0, none⟩), .int .i64 key, .pointer (some ⟨b3, 0, none⟩)] w3 fun e w' => ∃ q, e = .returned (.pointer (pa q)) ∧ Tr w' (t.put key v) q ∧ Below w.heap.size w w' ∧ Ko w.heap.size w3 w' from by
    intro b3 w3 hb3 ht3
    refine up_q (T.hold key v) (p := some b3) rfl (HP2.out.on hb3) key (HW2.out.same (fun t c ht => ht.on hb3)) ht3 (by rw [HF2.out]; rfl) HH.out ?_ (btr HB2.out hb3) (Nat.le_refl _)
    have h1 := HL.out
    have h2 := T.find_n key t
    rw [HF2.out] at h2
    simp only [T.n] at h2 ⊢
    omega)
  have H2 := hid hT2
  clear hT2 hf
  refine hid ?_
  go_wp2_with (first | (go_at_call 40; with_reducible refine (LF.out).mono ?_; rintro e w3 ⟨b3, rfl, t3, bl3⟩; clear LF; have HT3 := hid t3; have HB3 := hid bl3; clear t3 bl3) | (go_at_call 38; with_reducible refine (UP.out _ _ HB3.out HT3.out).mono ?_; rintro e w4 ⟨q4, rfl, t4, bl4, ko4⟩; clear UP; have HT4 := hid t4; have HB4 := hid bl4; have HK4 := hid ko4; clear t4 bl4 ko4; refine Hid.out ?_))
  have hrow := row_on H1.out HB4.out
  have c4 : w4.cell? ⟨B, 0, none⟩ = some (.pointer z) := (cell_on c0 HB4.out HLT.out)
  have f4 : w4.frozen? ⟨B, 0, none⟩ = false := frozen_of_row w4 B 0 _ _ hrow
  have HAV := hid (av_set hrow HT4.out)
  have HKO := hid (ko_of_below (B := B) (v := .pointer (pa q4)) HB4.out)
  have VL := hid (show Calls Try.prog 41 #[.pointer (some ⟨b2, 0, none⟩)] (w4.setCell ⟨B, 0, none⟩ (.pointer (pa q4))) fun e w' => e = .returned (.tuple #[.int .i64 u, .bool true]) ∧ w' = w4.setCell ⟨B, 0, none⟩ (.pointer (pa q4)) from val_q (p := some b2) rfl ((((H2.out.on HB3.out).ko (HP2.out.on HB3.out) HK4.out).koB hrow (Ko.set B w4 0 (.pointer (pa q4))))))
  have HG := hid (show t.get key = some u from by unfold T.get; rw [HF2.out]; rfl)
  obtain ⟨z4, hz4⟩ : ∃ z, pa q4 = z := ⟨_, rfl⟩
  rw [hz4] at HAV HKO VL ⊢
  clear hz4 hrow
  refine hid ?_
  go_wp2_with (first | (go_at_call 41; with_reducible refine (VL.out).mono ?_; rintro e w5 ⟨rfl, rfl⟩; simp only [oV]))
  go_ret2
  refine ⟨?_, HAV.out, HKO.out⟩
  rw [HG.out]; rfl


theorem put_any {w : World} {B : Nat} {t : T} (h : Av w B t) (hg : Gd t) (key v : Int) :
    Calls Try.prog 11 #[.pointer (some ⟨B, 0, none⟩), .int .i64 key, .int .i64 v] w fun e w' => e = .returned (oV (t.get key)) ∧ Av w' B (t.put key v) ∧ Ko B w w' := by
  rcases T.find_key (key := key) t with hf | hf
  · exact put_nil h hg key v hf
  · exact put_nd h hg key v hf

set_option maxHeartbeats 4000000 in
set_option maxRecDepth 100000 in
theorem drop_nil {w : World} {B : Nat} {t : T} (h : Av w B t) (hg : Gd t) (key : Int) (hf : t.find key = .nil) :
    Calls Try.prog 12 #[.pointer (some ⟨B, 0, none⟩), .int .i64 key] w fun e w' => e = .returned (oV (t.get key)) ∧ Av w' B (t.drop key) ∧ Ko B w w' := by
  have hlt := h.lt
  have HAV := hid h
  obtain ⟨p, h1, h2⟩ := h
  have hh := hg.h
  obtain ⟨z, hz⟩ : ∃ z, pa p = z := ⟨_, rfl⟩
  have c0 : w.cell? ⟨B, 0, none⟩ = some (.pointer z) := by rw [← hz]; exact row_cell h1 0
  have DN := hid (down_new hz h2 hh key w.heap.size (Nat.le_refl _) _ (pa_new w) (ball _ _))
  have HF := hid hf
  have hne : ¬ B = w.heap.size := by omega
  have HG := hid (show t.get key = none from by unfold T.get; rw [hf]; rfl)
  have HD := hid (show t.drop key = t from by unfold T.drop; rw [hf])
  have VL := hid (show ∀ w', Calls Try.prog 41 #[.pointer none] w' fun e w2 => e = .returned (oV none) ∧ w2 = w' from fun w' => val_q (p := none) (t := .nil) rfl rfl)
  clear h1 h2 hh hf hz hg
  go_enter Try.func12, Try.ntmps12
  go_wp2_with (first | (go_at_call 37; with_reducible refine (DN.out).mono ?_; rintro e w2 ⟨q2, bs, rfl, t2, p2, ws2, bl2, ko2⟩; clear DN; have HT2 := hid t2; have HP2 := hid p2; have HW2 := hid ws2; have HB2 := hid bl2; clear t2 p2 ws2 bl2 ko2; refine Hid.out ?_))
  have hT2 := HT2.out
  rw [HF.out] at hT2
  obtain rfl := hT2.ofNil
  simp only [pa]
  clear hT2
  refine hid ?_
  go_wp2_with (first | (go_at_call 41; with_reducible refine (VL.out _).mono ?_; rintro e w5 ⟨rfl, rfl⟩; simp only [oV]))
  go_ret2
  refine ⟨?_, ?_, Ko.of HB2.out⟩
  · rw [HG.out]; rfl
  · rw [HD.out]; exact HAV.out.on HB2.out
set_option maxHeartbeats 4000000 in
set_option maxRecDepth 100000 in
theorem drop_nd {w : World} {B : Nat} {t : T} (h : Av w B t) (hg : Gd t) (key : Int) (hf : ∃ u x y, t.find key = .nd key u x y) :
    Calls Try.prog 12 #[.pointer (some ⟨B, 0, none⟩), .int .i64 key] w fun e w' => e = .returned (oV (t.get key)) ∧ Av w' B (t.drop key) ∧ Ko B w w' := by
  have hlt := h.lt
  obtain ⟨u, x, y, hf⟩ := hf
  obtain ⟨p, h1, h2⟩ := h
  have hh := hg.h
  obtain ⟨z, hz⟩ : ∃ z, pa p = z := ⟨_, rfl⟩
  have c0 : w.cell? ⟨B, 0, none⟩ = some (.pointer z) := by rw [← hz]; exact row_cell h1 0
  have DN := hid (down_new hz h2 hh key w.heap.size (Nat.le_refl _) _ (pa_new w) (ball _ _))
  have HF := hid hf
  have H1 := hid h1
  have HH := hid hh
  have HLT := hid hlt
  have hfn := T.find_n key t
  have hfa := T.find_avl (key := key) hg.ok.av
  have hfs := T.find_so (key := key) hg.ok.srt
  have hfh := T.way_h key t
  rw [hf] at hfn hfa hfs hfh
  obtain ⟨d1, d2, d3, d4⟩ := T.dropped_spec hfa hfs
  have hdn : (T.nd key u x y).dropped.n ≤ t.n := by
    rw [← T.toL_len, d1, List.length_append, T.toL_len, T.toL_len]
    simp only [T.n] at hfn; omega
  have hyh : y.h ≤ 44 := by simp only [T.h] at hfh; omega
  have HX := hid (And.intro hg.lim (And.intro hfn (And.intro hdn (And.intro hyh (T.so_nd hfs).2.1))))
  have hne : ¬ B = w.heap.size := by omega
  have HG := hid (show t.get key = some u from by unfold T.get; rw [hf]; rfl)
  have HD := hid (show t.repl key T.dropped = t.drop key from by unfold T.drop; rw [hf])
  clear h1 h2 hh hf hz hg hfn hfa hfs hfh d1 d2 d3 d4 hdn hyh
  go_enter Try.func12, Try.ntmps12
  go_wp2_with (first | (go_at_call 37; with_reducible refine (DN.out).mono ?_; rintro e w2 ⟨q2, bs, rfl, t2, p2, ws2, bl2, ko2⟩; clear DN; have HT2 := hid t2; have HP2 := hid p2; have HW2 := hid ws2; have HB2 := hid bl2; clear t2 p2 ws2 bl2 ko2; refine Hid.out ?_))
  have hT2 := HT2.out
  rw [HF.out] at hT2
  obtain ⟨b2, rfl⟩ := hT2.ofNd
  simp only [pa]
  have LF := hid (dropped_any hT2 HX.out.2.2.2.2 HX.out.2.2.2.1 (by have := HX.out; omega))
  have UP := hid (show ∀ q3 z3 w3, pa q3 = z3 → Below w2.heap.size w2 w3 → Tr w3 (T.nd key u x y).dropped q3 → Calls Try.prog 38 #[.pointer (some ⟨w.heap.size, 0, none⟩), .int .i64 key, .pointer z3] w3 fun e w' => ∃ q, e = .returned (.pointer (pa q)) ∧ Tr w' (t.drop key) q ∧ Below w.heap.size w w' ∧ Ko w.heap.size w3 w' from by
    intro q3 z3 w3 hz3 hb3 ht3
    have := up_q T.dropped hz3 (HP2.out.on hb3) key (HW2.out.same (fun t c ht => ht.on hb3)) ht3 (by rw [HF.out]) HH.out (by have := HX.out; omega) (btr HB2.out hb3) (Nat.le_refl _)
    rw [HD.out] at this
    exact this)
  have H2 := hid hT2
  clear hT2
  refine hid ?_
  go_wp2_with (first | (go_at_call 42; with_reducible refine (LF.out).mono ?_; rintro e w3 ⟨q3, rfl, t3, bl3⟩; clear LF; have HT3 := hid t3; have HB3 := hid bl3; obtain ⟨z3, hz3⟩ : ∃ z, pa q3 = z := ⟨_, rfl⟩; rw [hz3]; have HZ3 := hid hz3; clear t3 bl3 hz3) | (go_at_call 38; with_reducible refine (UP.out _ _ _ HZ3.out HB3.out HT3.out).mono ?_; rintro e w4 ⟨q4, rfl, t4, bl4, ko4⟩; clear UP; have HT4 := hid t4; have HB4 := hid bl4; have HK4 := hid ko4; clear t4 bl4 ko4; refine Hid.out ?_))
  have hrow := row_on H1.out HB4.out
  have c4 : w4.cell? ⟨B, 0, none⟩ = some (.pointer z) := (cell_on c0 HB4.out HLT.out)
  have f4 : w4.frozen? ⟨B, 0, none⟩ = false := frozen_of_row w4 B 0 _ _ hrow
  have HAV := hid (av_set hrow HT4.out)
  have HKO := hid (ko_of_below (B := B) (v := .pointer (pa q4)) HB4.out)
  have VL := hid (show Calls Try.prog 41 #[.pointer (some ⟨b2, 0, none⟩)] (w4.setCell ⟨B, 0, none⟩ (.pointer (pa q4))) fun e w' => e = .returned (.tuple #[.int .i64 u, .bool true]) ∧ w' = w4.setCell ⟨B, 0, none⟩ (.pointer (pa q4)) from val_q (p := some b2) rfl ((((H2.out.on HB3.out).ko (HP2.out.on HB3.out) HK4.out).koB hrow (Ko.set B w4 0 (.pointer (pa q4))))))
  obtain ⟨z4, hz4⟩ : ∃ z, pa q4 = z := ⟨_, rfl⟩
  rw [hz4] at HAV HKO VL ⊢
  clear hz4 hrow
  refine hid ?_
  go_wp2_with (first | (go_at_call 41; with_reducible refine (VL.out).mono ?_; rintro e w5 ⟨rfl, rfl⟩; simp only [oV]))
  go_ret2
  refine ⟨?_, HAV.out, HKO.out⟩
  rw [HG.out]; rfl

theorem drop_any {w : World} {B : Nat} {t : T} (h : Av w B t) (hg : Gd t) (key : Int) :
    Calls Try.prog 12 #[.pointer (some ⟨B, 0, none⟩), .int .i64 key] w fun e w' => e = .returned (oV (t.get key)) ∧ Av w' B (t.drop key) ∧ Ko B w w' := by
  rcases T.find_key (key := key) t with hf | hf
  · exact drop_nil h hg key hf
  · exact drop_nd h hg key hf
end Go.Proofs.Ytldpkmegofncfaa
