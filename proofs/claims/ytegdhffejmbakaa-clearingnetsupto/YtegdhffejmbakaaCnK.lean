/-
  ClearingNets, walked.
-/
import Derived.Test.YtegdhffejmbakaaCnJ
namespace Go.Proofs.Ytegdhffejmbakaa.Ac
open Go.RowKit Go.Deep Go.Maps BigM MonM TexM ParM Go.Proofs.Ytegdhffejmbakaa
set_option linter.unusedVariables false
set_option linter.unusedSimpArgs false
set_option maxHeartbeats 8000000
set_option maxRecDepth 100000
attribute [local go_sem ↓] Go.wp_at_zero Go.wp_at_succ
theorem eqF_nil (d : Nat) (xs ys : Array Value) (w : World) : (Op.eqFields d xs ys []).run Try.prog w = .ok true w := by simp [Op.eqFields]
theorem eqF_any (d : Nat) (xs ys : Array Value) (f : Field) (fs : List Field) (u v : Value) (c : Bool) {r : Bool} {w : World} (hn : f.name ≠ "_") (hx : (part f.type xs f.offset).run Try.prog w = .ok u w) (hy : (part f.type ys f.offset).run Try.prog w = .ok v w)
    (hq : (Op.equalIn d f.type u v).run Try.prog w = .ok c w) (hr : (Op.eqFields d xs ys fs).run Try.prog w = .ok r w) : (Op.eqFields d xs ys (f :: fs)).run Try.prog w = .ok (c && r) w := by
  simp only [Op.eqFields, if_pos hn, Sem.run_bind, hx, hy, hq, Result.andThen_ok, Sem.run_ite]
  cases c
  · simp
  · simp [hr]
theorem eqF_cons (d : Nat) (xs ys : Array Value) (f : Field) (fs : List Field) (k k' : IntKind) (a b : Int) {r : Bool} {w : World} (hn : f.name ≠ "_") (hx : (part f.type xs f.offset).run Try.prog w = .ok (.int k a) w) (hy : (part f.type ys f.offset).run Try.prog w = .ok (.int k b) w)
    (hu : Try.prog.underlying f.type = some (.int k')) (hr : (Op.eqFields (d + 1) xs ys fs).run Try.prog w = .ok r w) : (Op.eqFields (d + 1) xs ys (f :: fs)).run Try.prog w = .ok ((a == b) && r) w :=
  eqF_any (d + 1) xs ys f fs _ _ (a == b) hn hx hy (run_equalIn_int w d f.type k k' a b hu) hr
theorem part_int (t : TypeId) (xs : Array Value) (o : Nat) (v : Value) (ha : ∀ w, (isAgg t).run Try.prog w = .ok false w) (h : xs[o]? = some v) (w : World) : (part t xs o).run Try.prog w = .ok v w := by
  simp [part, Sem.run_bind, ha, h]
theorem under26 : Try.prog.underlying 26 = some (.struct (Try.prog.fieldsOf 26)) := by kernel_rfl
theorem stood26 : Try.prog.stoodInHeld 26 = false := by kernel_rfl
theorem eqD0 (x : Dl) (w : World) : (Op.equalIn 10000 26 (.agg (drow x)) (.agg (drow x))).run Try.prog w = .ok ((x.ins == x.ins) && ((x.buy == x.buy) && ((x.sel == x.sel) && ((x.tk == x.tk) && ((x.pr == x.pr) && ((x.q == x.q) && true)))))) w := by
  rw [show (10000 : Nat) = 9999 + 1 from rfl, run_equalIn_struct w 9999 26 _ _ under26 stood26]
  simp only [Program.fieldsOf, Try.underlying26]
  exact eqF_cons _ _ _ _ _ .u32 .u32 _ _ (by decide) (part_int 23 _ _ _ Try.isAgg23 rfl _) (part_int 23 _ _ _ Try.isAgg23 rfl _) Try.underlying23 (eqF_cons _ _ _ _ _ .u32 .u32 _ _ (by decide) (part_int 23 _ _ _ Try.isAgg23 rfl _) (part_int 23 _ _ _ Try.isAgg23 rfl _) Try.underlying23 (eqF_cons _ _ _ _ _ .u32 .u32 _ _ (by decide) (part_int 23 _ _ _ Try.isAgg23 rfl _) (part_int 23 _ _ _ Try.isAgg23 rfl _) Try.underlying23 (eqF_cons _ _ _ _ _ .i64 .i64 _ _ (by decide) (part_int 3 _ _ _ Try.isAgg3 rfl _) (part_int 3 _ _ _ Try.isAgg3 rfl _) Try.underlying3 (eqF_cons _ _ _ _ _ .i64 .i64 _ _ (by decide) (part_int 3 _ _ _ Try.isAgg3 rfl _) (part_int 3 _ _ _ Try.isAgg3 rfl _) Try.underlying3 (eqF_cons _ _ _ _ _ .u64 .u64 _ _ (by decide) (part_int 24 _ _ _ Try.isAgg24 rfl _) (part_int 24 _ _ _ Try.isAgg24 rfl _) Try.underlying24 (eqF_nil _ _ _ _))))))
theorem eqD (x : Dl) (w : World) : (Op.equalIn 10000 26 (.agg #[.int .u32 x.ins, .int .u32 x.buy, .int .u32 x.sel, .int .i64 x.tk, .int .i64 x.pr, .int .u64 x.q]) (.agg #[.int .u32 x.ins, .int .u32 x.buy, .int .u32 x.sel, .int .i64 x.tk, .int .i64 x.pr, .int .u64 x.q])).run Try.prog w = .ok true w := by
  have h := eqD0 x w
  unfold drow at h
  rw [h]
  simp
theorem infoD40 : (Try.prog.info? 26).map (fun i => (i.zero, i.size, i.bytes)) = some (some (.agg #[.int .u32 0, .int .u32 0, .int .u32 0, .int .i64 0, .int .i64 0, .int .u64 0]), 6, 40) := by kernel_rfl
def dls (l : List Dl) : List Value := l.flatMap (fun x => (drow x).toList)
theorem dls_len (R : List Dl) : (dls R).length = R.length * 6 := by
  induction R with
  | nil => rfl
  | cons x R ih => simp only [dls, List.flatMap_cons, List.length_append, List.length_cons] at ih ⊢; rw [ih]; simp [drow]; omega
theorem dls_one (R : List Dl) : ∀ u ∈ dls R, u.oneCell' = true := by
  intro u hu
  obtain ⟨x, _, hx⟩ := List.mem_flatMap.1 hu
  simp only [drow, List.mem_cons, List.not_mem_nil, or_false] at hx
  rcases hx with rfl | rfl | rfl | rfl | rfl | rfl <;> rfl
theorem dls_at (l : List Dl) (i j : Nat) (hi : i < l.length) (hj : j < 6) : (dls l)[i * 6 + j]? = (drow l[i])[j]? := by
  have h := flat_at 6 (fun x => (drow x).toList) (fun _ => rfl) l i j hi hj
  unfold dls
  rw [h]
  simp
theorem Lz.on {w w' : World} {p : Option Addr} {l : List Dl} (h : Lz w p l) (hb : Below w.heap.size w w') : Lz w' p l := fun k hk => by
  obtain ⟨b, off, e, hl, hc⟩ := h k hk
  exact ⟨b, off, e, Nat.lt_of_lt_of_le hl hb.size, fun j hj => (hb.cell (p := ⟨b, off + k * 6 + j, none⟩) hl).trans (hc j hj)⟩
/-- deals that came in, read one by one. -/
theorem lz_rd {w : World} {ad : Addr} {l : List Dl} (h : Lz w (some ad) l) : ∀ j u, (dls l)[j]? = some u → w.cell? (ad.add j) = some u := fun j u hu => by
  have hj : j < l.length * 6 := by have := (List.getElem?_eq_some_iff.1 hu).1; rwa [dls_len] at this
  have hk : j / 6 < l.length := by omega
  obtain ⟨b, off, e, hl, hc⟩ := h (j / 6) hk
  have e : ad = ⟨b, off, none⟩ := Option.some.inj e
  subst e
  have h1 := dls_at l (j / 6) (j % 6) hk (by omega)
  have h2 := hc (j % 6) (by omega)
  rw [show j / 6 * 6 + j % 6 = j from by omega] at h1
  rw [show off + j / 6 * 6 + j % 6 = off + j from by omega] at h2
  rw [Addr.add_lit, h2, ← h1]
  exact hu
/-- what both say of the same deals. -/
def Tn (l : List Dl) (r : List Nt) : Prop := (nerr l ≠ 0 ∧ r = []) ∨ (nerr l = 0 ∧ RelN (nst (fun _ => none) l) r)
theorem Tn.uniq {l : List Dl} {r r' : List Nt} (h : Tn l r) (h' : Tn l r') : r = r' := by
  rcases h with ⟨h1, h2⟩ | ⟨h1, h2⟩
  · rcases h' with ⟨k1, k2⟩ | ⟨k1, k2⟩
    · rw [h2, k2]
    · exact absurd k1 h1
  · rcases h' with ⟨k1, k2⟩ | ⟨k1, k2⟩
    · exact absurd h1 k1
    · exact h2.uniq k2
theorem Tn.ok {l : List Dl} {r : List Nt} (h : Tn l r) : ∀ x ∈ r, x.ok := by
  rcases h with ⟨h1, rfl⟩ | ⟨h1, h2⟩
  · intro x hx; cases hx
  · exact fun x hx => ⟨(h2.ok x hx).1, (h2.ok x hx).2.2.1⟩
theorem ne_form {base : Nat} {w' : World} {e : Ending} {l : List Dl} (h : NeP base w' e l) : ∃ (r : List Nt) (q : Option Addr) (d n : Nat), r.length = n ∧ e = .returned (.tuple #[.slice q n d, .int .i64 (nerr l)]) ∧ Tn l r ∧ w'.ownsRow base 37 6 (.slice q n d) n (ncs r) ∧ n ≤ 2 * l.length := by
  rcases h with ⟨h1, h2⟩ | ⟨h1, r, q, d, n, h2, h3, h4, h5, h6⟩
  · exact ⟨[], none, 0, 0, rfl, h2, .inl ⟨h1, rfl⟩, own_nil _ _ _ _, Nat.zero_le _⟩
  · exact ⟨r, q, d, n, h2, by rw [h1]; exact h3, .inr ⟨h1, h4⟩, h5, h6⟩
theorem rne_form {base : Nat} {w' : World} {e : Ending} {l : List Dl} (h : RNeP base w' e l) : ∃ (R : List Ne) (q : Option Addr) (d n : Nat), R.length = n ∧ e = .returned (.tuple #[.slice q n d, .int .i64 (nerr l)]) ∧ Tn l (nev R) ∧ w'.ownsRow base 43 6 (.slice q n d) n (ecs R) ∧ emt w' R ∧ n ≤ 2 * l.length := by
  rcases h with ⟨h1, h2⟩ | ⟨h1, r, q, d, n, h2, h3, h4, h5, h6, h7⟩
  · exact ⟨[], none, 0, 0, rfl, h2, .inl ⟨h1, rfl⟩, own_nil _ _ _ _, fun x hx => (by cases hx), Nat.zero_le _⟩
  · exact ⟨r, q, d, n, h2, by rw [h1]; exact h3, .inr ⟨h1, h4⟩, h5, h6, h7⟩
theorem nlaw_any (q : Option Addr) (cap : Nat) (l : List Dl) (w : World) (hz : Lz w q l) (hq : q = none → l.length = 0 ∧ cap = 0) (hok : ∀ z ∈ l, z.ok) (hm : l.length ≤ 1048576) (hcap : l.length ≤ cap) :
    Calls Try.prog 3 #[.slice q l.length cap] w fun e w' => e = .returned (.bool true) ∧ Below w.heap.size w w' := by
  obtain ⟨n, hn⟩ : ∃ n, l.length = n := ⟨_, rfl⟩
  have HZ := hid hz
  have HOK := hid hok
  have HN := hid hn
  have HM := hid (show n ≤ 1048576 from by rw [← hn]; exact hm)
  have HQ := hid (show q = none → n = 0 ∧ cap = 0 from by rw [← hn]; exact hq)
  have HC := hid (show n ≤ cap from by rw [← hn]; exact hcap)
  rw [hn]
  clear hz hok hm hq hcap hn
  obtain ⟨wo, rfl⟩ : ∃ x, x = w := ⟨_, rfl⟩
  obtain ⟨E0, hE0⟩ : ∃ E, wo.alloc (.cells #[] 26) = E := ⟨_, rfl⟩
  obtain ⟨g0, hg0⟩ : ∃ g, wo.heap.size = g := ⟨_, rfl⟩
  have HO0 := hid (show E0.ownsRow g0 26 6 (.slice (some ⟨g0, 0, none⟩) 0 0) 0 [] from by rw [← hE0, ← hg0]; exact own_empty wo 26 6)
  have BE0 := hid (show Below wo.heap.size wo E0 from by rw [← hE0]; exact ball _ _)
  have SG0 := hid (show wo.heap.size ≤ g0 from by rw [← hg0]; exact Nat.le_refl _)
  have SE0 := hid (show g0 ≤ E0.heap.size from by rw [← hE0, ← hg0]; exact (ball wo _).size)
  have HE0 := hid hE0
  have Hg0 := hid hg0
  clear hE0 hg0
  go_enter Try.func3, Try.ntmps3
  go_upto_region 2 with (first | (rw [HE0.out, Hg0.out]; at_builtin; refine Dm.wpList_app_rd (by rfl) (.tmp 15) (.tmp 16) 22 26 _ 6 40 (by rfl) Try.underlying22 infoD40 rfl (by decide) g0 _ 0 [] (by rfl) HO0.out q cap n (dls l) (by rfl) HQ.out (by rw [dls_len, HN.out]) (fun ad ea j u hu => by cases ea; exact lz_rd (HZ.out.on BE0.out) j u hu) (dls_one l) (by have := HM.out; unfold maxLen; omega) (by have := HM.out; omega) SE0.out ?_; intro v' E1 hown hgrow; obtain ⟨q1, d1, rfl⟩ := own_form hown; rw [Nat.zero_add, List.nil_append] at hown; have HO1 := hid hown; have HG1 := hid hgrow; clear hown hgrow; have RX2 := hid (World.alloc_heap_new E1 (.cells #[.int .u32 4711, .int .u32 0, .int .u32 0, .int .i64 0, .int .i64 0, .int .u64 0] 26)); have BX2 := hid (ball E1 (.cells #[.int .u32 4711, .int .u32 0, .int .u32 0, .int .i64 0, .int .i64 0, .int .u64 0] 26))) | (at_builtin; refine Dm.wpList_app_rd (by rfl) (.tmp 17) (.tmp 19) 22 26 _ 6 40 (by rfl) Try.underlying22 infoD40 rfl (by decide) g0 _ n (dls l) (by rfl) (own_on HO1.out BX2.out) (some ⟨E1.heap.size, 0, none⟩) 1 1 [.int .u32 4711, .int .u32 0, .int .u32 0, .int .i64 0, .int .i64 0, .int .u64 0] (by rfl) (fun e => by cases e) rfl (fun ad ea j u hu => by cases ea; exact row_rd RX2.out hu) (by simp [Value.oneCell']) (by have := HM.out; unfold maxLen; omega) (by have := HM.out; omega) (Nat.le_trans SE0.out (Nat.le_trans HG1.out.size BX2.out.size)) ?_; intro v' E2 hown hgrow; obtain ⟨q2, d2, rfl⟩ := own_form hown; have HO2 := hid hown; have HG2 := hid hgrow; clear hown hgrow))
  have BE1 := hid (show Below wo.heap.size wo E1 from BE0.out.grown HG1.out BE0.out.size (fun j hj => by have := (own_lo HO0.out hj).1; have := SG0.out; omega))
  have BEX := hid (btr BE1.out BX2.out)
  have BE2 := hid (show Below wo.heap.size wo E2 from BEX.out.grown HG2.out BEX.out.size (fun j hj => by have := (own_lo (own_on HO1.out BX2.out) hj).1; have := SG0.out; omega))
  obtain ⟨g, hg, hgb, hgl⟩ := own_some HO2.out (by omega)
  subst hg
  have HGL := hid hgl
  have IN := hid (show Lz E2 (some ⟨g, 0, none⟩) l from fun k hk => ⟨g, 0, rfl, HGL.out, fun j hj => by
    have hk' : k < n := by rw [← HN.out]; exact hk
    have h1 := dls_at l k j hk hj
    obtain ⟨u, hu⟩ : ∃ u, (drow l[k])[j]? = some u := ⟨_, Array.getElem?_eq_getElem (show j < (drow l[k]).size from hj)⟩
    have h2 := (Dm.own_cells HO2.out).2 (k * 6 + j) u (by
      rw [List.getElem?_append_left (by rw [dls_len, HN.out]; omega), h1]; exact hu)
    rw [Addr.add_lit, Nat.zero_add] at h2
    rw [Nat.zero_add, h2, hu]⟩)
  have MK := hid (show E2.cell? ⟨g, n * 6, none⟩ = some (.int .u32 4711) from by
    have h2 := (Dm.own_cells HO2.out).2 (n * 6) (.int .u32 4711) (by
      rw [List.getElem?_append_right (by rw [dls_len, HN.out]; exact Nat.le_refl _), dls_len, HN.out, Nat.sub_self]; rfl)
    rw [Addr.add_lit, Nat.zero_add] at h2
    exact h2)
  have nd : n + 1 ≤ d2 := (own_cap HO2.out).1
  have nd' : n ≤ d2 := by omega
  have nlt : n < d2 := by omega
  have H5 := hid (netted_any (c := d2) IN.out HOK.out (by rw [HN.out]; have := HM.out; omega))
  have H6 := hid (show ∀ U, Below wo.heap.size wo U → Calls Try.prog 6 #[.slice q l.length cap] U fun e w' => RNeP U.heap.size w' e l ∧ Below U.heap.size U w' from fun U hU => rnetted_any (c := cap) (HZ.out.on hU) HOK.out (by rw [HN.out]; have := HM.out; omega))
  rw [HN.out] at H5 H6
  clear hgb hgl HO0 HO1 HG1 HG2 BE0 BE1 BEX BX2 RX2
  go_upto_region 3 with (go_at_call 5; (with_reducible refine H5.out.mono ?_); rintro e w1 ⟨hd, hbx⟩; obtain ⟨r, qr, dr, rn, hrn, rfl, htq, hor, hle⟩ := ne_form hd; have B1 := hid hbx; have HRN := hid hrn; have HTQ := hid htq; have HOR := hid hor; have HLE := hid hle; clear hbx hd hrn htq hor hle)
  have BW1 := hid (btr BE2.out B1.out)
  go_upto_region 4 with (go_at_call 6; (with_reducible refine (H6.out w1 BW1.out).mono ?_); rintro e w2 ⟨hd, hbx⟩; obtain ⟨R, qs, ds, sn, hsn, rfl, htq, hor, has, hle⟩ := rne_form hd; have B2 := hid hbx; have HSN := hid hsn; have HTS := hid htq; have HOS := hid hor; have HAS := hid has; clear hbx hd hsn htq hor has hle)
  obtain ⟨er, her⟩ : ∃ x, nerr l = x := ⟨_, rfl⟩
  rw [her]
  have HRR := hid (show nev R = r from (HTQ.out.uniq HTS.out).symm)
  have HSR := hid (show sn = rn from by rw [← HSN.out, ← HRN.out, ← HRR.out]; unfold nev; rw [List.length_map])
  have hsr := HSR.out
  subst hsr
  have hne : (er != er) = false := by simp
  have hnn : ((sn : Int) != (sn : Int)) = false := by simp
  have HO1 := hid (own_on HOR.out B2.out)
  have BW2 := hid (btr BW1.out B2.out)
  have B12 := hid (btr B1.out B2.out)
  have mk := (B12.out.cell (p := ⟨g, n * 6, none⟩) HGL.out).trans MK.out
  have n1 : (n : Int) < ((n + 1 : Nat) : Int) := by omega
  have n0' : (0 : Int) ≤ (n : Int) := by omega
  have HTT := hid (show Tn l (nev R) from HTS.out)
  clear her H5 H6 MK HTS
  go_upto_region 6 with fail
  clear mk
  go_upto_region 7 with fail
  go_loopw [8] (fun iv wr => ∃ (i : Nat), i ≤ n ∧ iv = .int .i64 (i : Nat) ∧ Hid (Below w2.heap.size w2 wr)) (fun iv _ => n - (intOf iv).toNat)
  case atStart => exact ⟨0, Nat.zero_le _, rfl, Below.refl _ _⟩
  case round =>
    obtain ⟨i, hin, rfl, BJ⟩ := hrel
    by_cases hlt : i < n
    · have hi' : i < l.length := by rw [HN.out]; exact hlt
      obtain ⟨z, off, rfl, hbl, hc⟩ := HZ.out i hi'
      obtain ⟨_, _, e, _, hd⟩ := IN.out i hi'
      injection e with e
      injection e with e e'
      subst e e'
      generalize l[i] = x at hc hd
      have KC := fun j (hj : j < 6) => ((btr BW2.out BJ.out).cell (p := ⟨z, off + i * 6 + j, none⟩) hbl).trans (hc j hj)
      have KD := fun j (hj : j < 6) => ((btr B12.out BJ.out).cell (p := ⟨g, 0 + i * 6 + j, none⟩) HGL.out).trans (hd j hj)
      have EQ := fun W => eqD x W
      obtain ⟨ii, bu, se, tk, pr, qq⟩ := x
      have c0 : wr.cell? ⟨z, off + i * 6, none⟩ = some (.int .u32 ii) := KC 0 (by decide)
      have c1 : wr.cell? ⟨z, off + i * 6 + 1, none⟩ = some (.int .u32 bu) := KC 1 (by decide)
      have c2 : wr.cell? ⟨z, off + i * 6 + 2, none⟩ = some (.int .u32 se) := KC 2 (by decide)
      have c3 : wr.cell? ⟨z, off + i * 6 + 3, none⟩ = some (.int .i64 tk) := KC 3 (by decide)
      have c4 : wr.cell? ⟨z, off + i * 6 + 4, none⟩ = some (.int .i64 pr) := KC 4 (by decide)
      have c5 : wr.cell? ⟨z, off + i * 6 + 5, none⟩ = some (.int .u64 qq) := KC 5 (by decide)
      have d0 : wr.cell? ⟨g, i * 6, none⟩ = some (.int .u32 ii) := by have h1 := KD 0 (by decide); rw [Nat.zero_add] at h1; exact h1
      have d1 : wr.cell? ⟨g, i * 6 + 1, none⟩ = some (.int .u32 bu) := by have h1 := KD 1 (by decide); rw [Nat.zero_add] at h1; exact h1
      have d2 : wr.cell? ⟨g, i * 6 + 2, none⟩ = some (.int .u32 se) := by have h1 := KD 2 (by decide); rw [Nat.zero_add] at h1; exact h1
      have d3 : wr.cell? ⟨g, i * 6 + 3, none⟩ = some (.int .i64 tk) := by have h1 := KD 3 (by decide); rw [Nat.zero_add] at h1; exact h1
      have d4 : wr.cell? ⟨g, i * 6 + 4, none⟩ = some (.int .i64 pr) := by have h1 := KD 4 (by decide); rw [Nat.zero_add] at h1; exact h1
      have d5 : wr.cell? ⟨g, i * 6 + 5, none⟩ = some (.int .u64 qq) := by have h1 := KD 5 (by decide); rw [Nat.zero_add] at h1; exact h1
      clear KC KD hc hd
      have i0 : (0 : Int) ≤ (i : Int) := by omega
      have i1 : (i : Int) < (n : Int) := by omega
      have i2 : (i : Int) < ((n + 1 : Nat) : Int) := by omega
      have wi : IntKind.i64.wrap ((i : Int) + 1) = ((i + 1 : Nat) : Int) := by have := HM.out; rw [IntKind.wrap_i64]; omega
      have HLT := hid hlt
      clear hlt hin hi' hbl
      dsimp only at EQ
      go_wp2_with fail
      go_big_quiet (fail)
      go_wp2
      go_roundw
      case rel => exact ⟨i + 1, HLT.out, by go_num, hid (btr BJ.out (bdrew _ _))⟩
      case measure => have := HLT.out; simp [intOf]; omega
    · obtain rfl : i = n := by omega
      have jn : ¬ (i : Int) < (i : Int) := by omega
      obtain ⟨wa, rfl⟩ : ∃ x, x = wr := ⟨_, rfl⟩
      have HOA := hid (own_on HO1.out BJ.out)
      have HOB := hid (own_on HOS.out BJ.out)
      have HAB := hid (emt_on HAS.out BJ.out)
      have BWA := hid (btr BW2.out BJ.out)
      clear hlt hin HO1 HOS HAS
      go_upto_region 12 with fail
      go_loopw [9] (fun jv wr => ∃ (j : Nat), j ≤ sn ∧ jv = .int .i64 (j : Nat) ∧ Hid (Below wa.heap.size wa wr)) (fun jv _ => sn - (intOf jv).toNat)
      case atStart => exact ⟨0, Nat.zero_le _, rfl, Below.refl _ _⟩
      case round =>
        obtain ⟨j, hjn, rfl, BK⟩ := hrel
        by_cases hlt : j < sn
        · obtain ⟨ga, rfl, _, hga⟩ := own_some HOA.out (by omega)
          obtain ⟨gb, rfl, _, hgb⟩ := own_some HOB.out (by omega)
          have hj' : j < R.length := by rw [HSN.out]; exact hlt
          have hjr : j < r.length := by rw [HRN.out]; exact hlt
          have e1 : r[j] = R[j].nt := by
            have h0 : r[j]? = (nev R)[j]? := by rw [HRR.out]
            rw [List.getElem?_eq_getElem hjr] at h0
            unfold nev at h0
            rw [List.getElem?_map, List.getElem?_eq_getElem hj'] at h0
            exact Option.some.inj h0
          have HYA := hid (HAB.out R[j] (List.getElem_mem hj'))
          have HYM := hid (show Amt (R[j]).a from by have := (HTT.out.ok R[j].nt (List.mem_map.2 ⟨_, List.getElem_mem hj', rfl⟩)).2; exact this)
          have hcb : ∀ e u, e < 6 → (ece R[j])[e]? = some u → ∀ U, Below wa.heap.size wa U → U.cell? ⟨gb, j * 6 + e, none⟩ = some u := fun e u he hu U hU => by
            have h1 := (Dm.own_cells HOB.out).2 (j * 6 + e) u ((flat_at 6 ece (fun _ => rfl) R j e hj' he).trans hu)
            rw [Addr.add_lit, Nat.zero_add] at h1
            exact (hU.cell (p := ⟨gb, j * 6 + e, none⟩) hgb).trans h1
          have hca : ∀ e u, e < 6 → (nce R[j].nt)[e]? = some u → ∀ U, Below wa.heap.size wa U → U.cell? ⟨ga, j * 6 + e, none⟩ = some u := fun e u he hu U hU => by
            have h1 := (Dm.own_cells HOA.out).2 (j * 6 + e) u ((flat_at 6 nce (fun _ => rfl) r j e hjr he).trans (by rw [e1]; exact hu))
            rw [Addr.add_lit, Nat.zero_add] at h1
            exact (hU.cell (p := ⟨ga, j * 6 + e, none⟩) hga).trans h1
          clear e1
          generalize R[j] = y at hca hcb HYA HYM
          obtain ⟨ym, yi, yo, ys, yv, yb, yp, yn, yc⟩ := y
          have A0 := hid (show ∀ U, Below wr.heap.size wr U → U.cell? ⟨ga, j * 6, none⟩ = some (.int .u32 ym) from fun U h => hca 0 _ (by decide) rfl U (btr BK.out h))
          have A1 := hid (show ∀ U, Below wr.heap.size wr U → U.cell? ⟨ga, j * 6 + 1, none⟩ = some (.int .u32 yi) from fun U h => hca 1 _ (by decide) rfl U (btr BK.out h))
          have A2 := hid (show ∀ U, Below wr.heap.size wr U → U.cell? ⟨ga, j * 6 + 2, none⟩ = some (.int .u64 yo) from fun U h => hca 2 _ (by decide) rfl U (btr BK.out h))
          have A3 := hid (show ∀ U, Below wr.heap.size wr U → U.cell? ⟨ga, j * 6 + 3, none⟩ = some (.int .u64 ys) from fun U h => hca 3 _ (by decide) rfl U (btr BK.out h))
          have A4 := hid (show ∀ U, Below wr.heap.size wr U → U.cell? ⟨ga, j * 6 + 4, none⟩ = some (.int .u64 (hiW yv)) from fun U h => hca 4 _ (by decide) rfl U (btr BK.out h))
          have A5 := hid (show ∀ U, Below wr.heap.size wr U → U.cell? ⟨ga, j * 6 + 5, none⟩ = some (.int .u64 (loW yv)) from fun U h => hca 5 _ (by decide) rfl U (btr BK.out h))
          have E0 := hid (show ∀ U, Below wr.heap.size wr U → U.cell? ⟨gb, j * 6, none⟩ = some (.int .u32 ym) from fun U h => hcb 0 _ (by decide) rfl U (btr BK.out h))
          have E1 := hid (show ∀ U, Below wr.heap.size wr U → U.cell? ⟨gb, j * 6 + 1, none⟩ = some (.int .u32 yi) from fun U h => hcb 1 _ (by decide) rfl U (btr BK.out h))
          have E2 := hid (show ∀ U, Below wr.heap.size wr U → U.cell? ⟨gb, j * 6 + 2, none⟩ = some (.int .u64 yo) from fun U h => hcb 2 _ (by decide) rfl U (btr BK.out h))
          have E3 := hid (show ∀ U, Below wr.heap.size wr U → U.cell? ⟨gb, j * 6 + 3, none⟩ = some (.int .u64 ys) from fun U h => hcb 3 _ (by decide) rfl U (btr BK.out h))
          have E4 := hid (show ∀ U, Below wr.heap.size wr U → U.cell? ⟨gb, j * 6 + 4, none⟩ = some (.bool yb) from fun U h => hcb 4 _ (by decide) rfl U (btr BK.out h))
          have E5 := hid (show ∀ U, Below wr.heap.size wr U → U.cell? ⟨gb, j * 6 + 5, none⟩ = some (.slice yp yn yc) from fun U h => hcb 5 _ (by decide) rfl U (btr BK.out h))
          have CS := hid (show ∀ U, Below wr.heap.size wr U → Calls Try.prog 7 #[.agg #[.int .u64 (hiW yv), .int .u64 (loW yv)], .agg #[.bool yb, .slice yp yn yc]] U fun e w' => e = .returned (.bool true) ∧ Below U.heap.size U w' from fun U h => same_any yv yb yp yn yc U HYM.out (HYA.out.on (btr BK.out h)))
          have j0 : (0 : Int) ≤ (j : Int) := by omega
          have j1 : (j : Int) < (sn : Int) := by omega
          have kca : sn ≤ dr := (own_cap HOA.out).1
          have kcb : sn ≤ ds := (own_cap HOB.out).1
          have wj : IntKind.i64.wrap ((j : Int) + 1) = ((j + 1 : Nat) : Int) := by have := (own_cap HOA.out).2.1; unfold maxLen at this; rw [IntKind.wrap_i64]; omega
          have HLT := hid hlt
          clear hlt hjn hj' hjr hga hgb hca hcb
          go_upto_region 14 with fail
          obtain ⟨V1, hV1⟩ : ∃ U, wr.drew = U := ⟨_, rfl⟩
          have DV1 := hid (show Below wr.heap.size wr V1 from by rw [← hV1]; exact bdrew1 _)
          have BV1 := hid (btr (Below.refl wr.heap.size wr) DV1.out)
          refine wp_region_held_drew (S := fun U => U.cell? ⟨ga, j * 6, none⟩ = some (.int .u32 ym) ∧ U.cell? ⟨ga, j * 6 + 1, none⟩ = some (.int .u32 yi) ∧ U.cell? ⟨ga, j * 6 + 2, none⟩ = some (.int .u64 yo) ∧ U.cell? ⟨ga, j * 6 + 3, none⟩ = some (.int .u64 ys) ∧ U.cell? ⟨ga, j * 6 + 4, none⟩ = some (.int .u64 (hiW yv)) ∧ U.cell? ⟨ga, j * 6 + 5, none⟩ = some (.int .u64 (loW yv)) ∧ U.cell? ⟨gb, j * 6, none⟩ = some (.int .u32 ym) ∧ U.cell? ⟨gb, j * 6 + 1, none⟩ = some (.int .u32 yi) ∧ U.cell? ⟨gb, j * 6 + 2, none⟩ = some (.int .u64 yo) ∧ U.cell? ⟨gb, j * 6 + 3, none⟩ = some (.int .u64 ys) ∧ U.cell? ⟨gb, j * 6 + 4, none⟩ = some (.bool yb) ∧ U.cell? ⟨gb, j * 6 + 5, none⟩ = some (.slice yp yn yc)) (by kernel_rfl) ?_ (fun hHeld => ?_)
          · (try dsimp only); rw [hV1]; exact ⟨A0.out _ BV1.out, A1.out _ BV1.out, A2.out _ BV1.out, A3.out _ BV1.out, A4.out _ BV1.out, A5.out _ BV1.out, E0.out _ BV1.out, E1.out _ BV1.out, E2.out _ BV1.out, E3.out _ BV1.out, E4.out _ BV1.out, E5.out _ BV1.out⟩
          rw [hV1] at hHeld ⊢
          clear hV1
          refine' wpAnyH_take (i := 0) (oi := _) (v := _) rfl (by kernel_rfl) (by kernel_rfl) (by kernel_rfl) (fun _ _ _ h => h) (Or.inl ⟨by kernel_rfl, ?_⟩) (by assumption) ?_
          rotate_left
          · (intro w hSw; (try dsimp only at hSw); go_simp; try (with_reducible rfl))
          try simp only [List.getElem_toArray, List.getElem_cons_succ, List.getElem_cons_zero, Act.put, List.setIfInBounds_toArray, List.set_cons_zero, List.set_cons_succ]
          refine' wpAnyH_take (i := 1) (oi := _) (v := _) rfl (by kernel_rfl) (by kernel_rfl) (by kernel_rfl) (fun _ _ _ h => h) (Or.inl ⟨by kernel_rfl, ?_⟩) (by assumption) ?_
          rotate_left
          · (intro w hSw; (try dsimp only at hSw); go_simp; try (with_reducible rfl))
          try simp only [List.getElem_toArray, List.getElem_cons_succ, List.getElem_cons_zero, Act.put, List.setIfInBounds_toArray, List.set_cons_zero, List.set_cons_succ]
          refine' wpAnyH_take (i := 2) (oi := _) (v := _) rfl (by kernel_rfl) (by kernel_rfl) (by kernel_rfl) (fun _ _ _ h => h) (Or.inl ⟨by kernel_rfl, ?_⟩) (by assumption) ?_
          rotate_left
          · (intro w hSw; (try dsimp only at hSw); go_simp; try (with_reducible rfl))
          try simp only [List.getElem_toArray, List.getElem_cons_succ, List.getElem_cons_zero, Act.put, List.setIfInBounds_toArray, List.set_cons_zero, List.set_cons_succ]
          refine' wpAnyH_take (i := 3) (oi := _) (v := _) rfl (by kernel_rfl) (by kernel_rfl) (by kernel_rfl) (fun _ _ _ h => h) (Or.inl ⟨by kernel_rfl, ?_⟩) (by assumption) ?_
          rotate_left
          · (intro w hSw; (try dsimp only at hSw); go_simp; try (with_reducible rfl))
          try simp only [List.getElem_toArray, List.getElem_cons_succ, List.getElem_cons_zero, Act.put, List.setIfInBounds_toArray, List.set_cons_zero, List.set_cons_succ]
          refine' wpAnyH_take (i := 4) (oi := _) (v := _) rfl (by kernel_rfl) (by kernel_rfl) (by kernel_rfl) (fun _ _ _ h => h) (Or.inl ⟨by kernel_rfl, ?_⟩) (by assumption) ?_
          rotate_left
          · (intro w hSw; (try dsimp only at hSw); go_simp; try (with_reducible rfl))
          try simp only [List.getElem_toArray, List.getElem_cons_succ, List.getElem_cons_zero, Act.put, List.setIfInBounds_toArray, List.set_cons_zero, List.set_cons_succ]
          refine' wpAnyH_take (i := 5) (oi := _) (v := _) rfl (by kernel_rfl) (by kernel_rfl) (by kernel_rfl) (fun _ _ _ h => h) (Or.inl ⟨by kernel_rfl, ?_⟩) (by assumption) ?_
          rotate_left
          · (intro w hSw; (try dsimp only at hSw); go_simp; try (with_reducible rfl))
          try simp only [List.getElem_toArray, List.getElem_cons_succ, List.getElem_cons_zero, Act.put, List.setIfInBounds_toArray, List.set_cons_zero, List.set_cons_succ]
          refine' wpAnyH_take (i := 6) (oi := _) (v := _) rfl (by kernel_rfl) (by kernel_rfl) (by kernel_rfl) (fun _ _ _ h => h) (Or.inl ⟨by kernel_rfl, ?_⟩) (by assumption) ?_
          rotate_left
          · (intro w hSw; (try dsimp only at hSw); go_simp; try (with_reducible rfl))
          try simp only [List.getElem_toArray, List.getElem_cons_succ, List.getElem_cons_zero, Act.put, List.setIfInBounds_toArray, List.set_cons_zero, List.set_cons_succ]
          refine' wpAnyH_take (i := 7) (oi := _) (v := _) rfl (by kernel_rfl) (by kernel_rfl) (by kernel_rfl) (fun _ _ _ h => h) (Or.inl ⟨by kernel_rfl, ?_⟩) (by assumption) ?_
          rotate_left
          · (intro w hSw; (try dsimp only at hSw); go_simp; try (with_reducible rfl))
          try simp only [List.getElem_toArray, List.getElem_cons_succ, List.getElem_cons_zero, Act.put, List.setIfInBounds_toArray, List.set_cons_zero, List.set_cons_succ]
          refine' wpAnyH_take (i := 8) (oi := _) (v := _) rfl (by kernel_rfl) (by kernel_rfl) (by kernel_rfl) (fun _ _ _ h => h) (Or.inl ⟨by kernel_rfl, ?_⟩) (by assumption) ?_
          rotate_left
          · (intro w hSw; (try dsimp only at hSw); go_simp; try (with_reducible rfl))
          try simp only [List.getElem_toArray, List.getElem_cons_succ, List.getElem_cons_zero, Act.put, List.setIfInBounds_toArray, List.set_cons_zero, List.set_cons_succ]
          refine' wpAnyH_take (i := 9) (oi := _) (v := _) rfl (by kernel_rfl) (by kernel_rfl) (by kernel_rfl) (fun _ _ _ h => h) (Or.inl ⟨by kernel_rfl, ?_⟩) (by assumption) ?_
          rotate_left
          · (intro w hSw; (try dsimp only at hSw); go_simp; try (with_reducible rfl))
          try simp only [List.getElem_toArray, List.getElem_cons_succ, List.getElem_cons_zero, Act.put, List.setIfInBounds_toArray, List.set_cons_zero, List.set_cons_succ]
          refine' wpAnyH_take (i := 10) (oi := _) (v := _) rfl (by kernel_rfl) (by kernel_rfl) (by kernel_rfl) (fun _ _ _ h => h) (Or.inl ⟨by kernel_rfl, ?_⟩) (by assumption) ?_
          rotate_left
          · (intro w hSw; (try dsimp only at hSw); go_simp; try (with_reducible rfl))
          try simp only [List.getElem_toArray, List.getElem_cons_succ, List.getElem_cons_zero, Act.put, List.setIfInBounds_toArray, List.set_cons_zero, List.set_cons_succ]
          refine' wpAnyH_take (i := 11) (oi := _) (v := _) rfl (by kernel_rfl) (by kernel_rfl) (by kernel_rfl) (fun _ _ _ h => h) (Or.inl ⟨by kernel_rfl, ?_⟩) (by assumption) ?_
          rotate_left
          · (intro w hSw; (try dsimp only at hSw); go_simp; try (with_reducible rfl))
          try simp only [List.getElem_toArray, List.getElem_cons_succ, List.getElem_cons_zero, Act.put, List.setIfInBounds_toArray, List.set_cons_zero, List.set_cons_succ]
          refine' wpAnyH_take (i := 12) (oi := _) (v := _) rfl (by kernel_rfl) (by kernel_rfl) (by kernel_rfl) (fun _ _ _ h => h) (Or.inl ⟨by kernel_rfl, ?_⟩) (by assumption) ?_
          rotate_left
          · (intro w hSw; (try dsimp only at hSw); go_simp; try (with_reducible rfl))
          try simp only [List.getElem_toArray, List.getElem_cons_succ, List.getElem_cons_zero, Act.put, List.setIfInBounds_toArray, List.set_cons_zero, List.set_cons_succ]
          refine' wpAnyH_take (i := 13) (oi := _) (v := _) rfl (by kernel_rfl) (by kernel_rfl) (by kernel_rfl) (fun _ _ _ h => h) (Or.inl ⟨by kernel_rfl, ?_⟩) (by assumption) ?_
          rotate_left
          · (intro w hSw; (try dsimp only at hSw); go_simp; try (with_reducible rfl))
          try simp only [List.getElem_toArray, List.getElem_cons_succ, List.getElem_cons_zero, Act.put, List.setIfInBounds_toArray, List.set_cons_zero, List.set_cons_succ]
          refine' wpAnyH_take (i := 14) (oi := _) (v := _) rfl (by kernel_rfl) (by kernel_rfl) (by kernel_rfl) (fun _ _ _ h => h) (Or.inl ⟨by kernel_rfl, ?_⟩) (by assumption) ?_
          rotate_left
          · (intro w hSw; (try dsimp only at hSw); go_simp; try (with_reducible rfl))
          try simp only [List.getElem_toArray, List.getElem_cons_succ, List.getElem_cons_zero, Act.put, List.setIfInBounds_toArray, List.set_cons_zero, List.set_cons_succ]
          refine' wpAnyH_take (i := 15) (oi := _) (v := _) rfl (by kernel_rfl) (by kernel_rfl) (by kernel_rfl) (fun _ _ _ h => h) (Or.inl ⟨by kernel_rfl, ?_⟩) (by assumption) ?_
          rotate_left
          · (intro w hSw; (try dsimp only at hSw); go_simp; try (with_reducible rfl))
          try simp only [List.getElem_toArray, List.getElem_cons_succ, List.getElem_cons_zero, Act.put, List.setIfInBounds_toArray, List.set_cons_zero, List.set_cons_succ]
          refine' wpAnyH_take (i := 16) (oi := _) (v := _) rfl (by kernel_rfl) (by kernel_rfl) (by kernel_rfl) (fun _ _ _ h => h) (Or.inl ⟨by kernel_rfl, ?_⟩) (by assumption) ?_
          rotate_left
          · (intro w hSw; (try dsimp only at hSw); go_simp; try (with_reducible rfl))
          try simp only [List.getElem_toArray, List.getElem_cons_succ, List.getElem_cons_zero, Act.put, List.setIfInBounds_toArray, List.set_cons_zero, List.set_cons_succ]
          refine' wpAnyH_take (i := 17) (oi := _) (v := _) rfl (by kernel_rfl) (by kernel_rfl) (by kernel_rfl) (fun _ _ _ h => h) (Or.inl ⟨by kernel_rfl, ?_⟩) (by assumption) ?_
          rotate_left
          · (intro w hSw; (try dsimp only at hSw); go_simp; try (with_reducible rfl))
          try simp only [List.getElem_toArray, List.getElem_cons_succ, List.getElem_cons_zero, Act.put, List.setIfInBounds_toArray, List.set_cons_zero, List.set_cons_succ]
          refine' wpAnyH_take (i := 18) (oi := _) (v := _) rfl (by kernel_rfl) (by kernel_rfl) (by kernel_rfl) (fun _ _ _ h => h) (Or.inl ⟨by kernel_rfl, ?_⟩) (by assumption) ?_
          rotate_left
          · (intro w hSw; (try dsimp only at hSw); go_simp; try (with_reducible rfl))
          try simp only [List.getElem_toArray, List.getElem_cons_succ, List.getElem_cons_zero, Act.put, List.setIfInBounds_toArray, List.set_cons_zero, List.set_cons_succ]
          refine' wpAnyH_take (i := 19) (oi := _) (v := _) rfl (by kernel_rfl) (by kernel_rfl) (by kernel_rfl) (fun _ _ _ h => h) (Or.inl ⟨by kernel_rfl, ?_⟩) (by assumption) ?_
          rotate_left
          · (intro w hSw; (try dsimp only at hSw); go_simp; try (with_reducible rfl))
          try simp only [List.getElem_toArray, List.getElem_cons_succ, List.getElem_cons_zero, Act.put, List.setIfInBounds_toArray, List.set_cons_zero, List.set_cons_succ]
          refine' wpAnyH_take (i := 20) (oi := _) (v := _) rfl (by kernel_rfl) (by kernel_rfl) (by kernel_rfl) (fun _ _ _ h => h) (Or.inl ⟨by kernel_rfl, ?_⟩) (by assumption) ?_
          rotate_left
          · (intro w hSw; (try dsimp only at hSw); go_simp; try (with_reducible rfl))
          try simp only [List.getElem_toArray, List.getElem_cons_succ, List.getElem_cons_zero, Act.put, List.setIfInBounds_toArray, List.set_cons_zero, List.set_cons_succ]
          refine' wpAnyH_take (i := 21) (oi := _) (v := _) rfl (by kernel_rfl) (by kernel_rfl) (by kernel_rfl) (fun _ _ _ h => h) (Or.inl ⟨by kernel_rfl, ?_⟩) (by assumption) ?_
          rotate_left
          · (intro w hSw; (try dsimp only at hSw); go_simp; try (with_reducible rfl))
          try simp only [List.getElem_toArray, List.getElem_cons_succ, List.getElem_cons_zero, Act.put, List.setIfInBounds_toArray, List.set_cons_zero, List.set_cons_succ]
          refine' wpAnyH_take (i := 22) (oi := _) (v := _) rfl (by kernel_rfl) (by kernel_rfl) (by kernel_rfl) (fun _ _ _ h => h) (Or.inl ⟨by kernel_rfl, ?_⟩) (by assumption) ?_
          rotate_left
          · (intro w hSw; (try dsimp only at hSw); go_simp; try (with_reducible rfl))
          try simp only [List.getElem_toArray, List.getElem_cons_succ, List.getElem_cons_zero, Act.put, List.setIfInBounds_toArray, List.set_cons_zero, List.set_cons_succ]
          refine' wpAnyH_take (i := 23) (oi := _) (v := _) rfl (by kernel_rfl) (by kernel_rfl) (by kernel_rfl) (fun _ _ _ h => h) (Or.inl ⟨by kernel_rfl, ?_⟩) (by assumption) ?_
          rotate_left
          · (intro w hSw; (try dsimp only at hSw); go_simp; try (with_reducible rfl))
          try simp only [List.getElem_toArray, List.getElem_cons_succ, List.getElem_cons_zero, Act.put, List.setIfInBounds_toArray, List.set_cons_zero, List.set_cons_succ]
          refine' wpAnyH_take (i := 24) (oi := _) (v := _) rfl (by kernel_rfl) (by kernel_rfl) (by kernel_rfl) (fun _ _ _ h => h) (Or.inl ⟨by kernel_rfl, ?_⟩) (by assumption) ?_
          rotate_left
          · (intro w hSw; (try dsimp only at hSw); go_simp; try (with_reducible rfl))
          try simp only [List.getElem_toArray, List.getElem_cons_succ, List.getElem_cons_zero, Act.put, List.setIfInBounds_toArray, List.set_cons_zero, List.set_cons_succ]
          refine' wpAnyH_take (i := 25) (oi := _) (v := _) rfl (by kernel_rfl) (by kernel_rfl) (by kernel_rfl) (fun _ _ _ h => h) (Or.inl ⟨by kernel_rfl, ?_⟩) (by assumption) ?_
          rotate_left
          · (intro w hSw; (try dsimp only at hSw); go_simp; try (with_reducible rfl))
          try simp only [List.getElem_toArray, List.getElem_cons_succ, List.getElem_cons_zero, Act.put, List.setIfInBounds_toArray, List.set_cons_zero, List.set_cons_succ]
          refine' wpAnyH_take (i := 26) (oi := _) (v := _) rfl (by kernel_rfl) (by kernel_rfl) (by kernel_rfl) (fun _ _ _ h => h) (Or.inl ⟨by kernel_rfl, ?_⟩) (by assumption) ?_
          rotate_left
          · (intro w hSw; (try dsimp only at hSw); go_simp; try (with_reducible rfl))
          try simp only [List.getElem_toArray, List.getElem_cons_succ, List.getElem_cons_zero, Act.put, List.setIfInBounds_toArray, List.set_cons_zero, List.set_cons_succ]
          refine' wpAnyH_take (i := 27) (oi := _) (v := _) rfl (by kernel_rfl) (by kernel_rfl) (by kernel_rfl) (fun _ _ _ h => h) (Or.inl ⟨by kernel_rfl, ?_⟩) (by assumption) ?_
          rotate_left
          · (intro w hSw; (try dsimp only at hSw); go_simp; try (with_reducible rfl))
          try simp only [List.getElem_toArray, List.getElem_cons_succ, List.getElem_cons_zero, Act.put, List.setIfInBounds_toArray, List.set_cons_zero, List.set_cons_succ]
          refine' wpAnyH_take (i := 28) (oi := _) (v := _) rfl (by kernel_rfl) (by kernel_rfl) (by kernel_rfl) (fun _ _ _ h => h) (Or.inl ⟨by kernel_rfl, ?_⟩) (by assumption) ?_
          rotate_left
          · (intro w hSw; (try dsimp only at hSw); go_simp; try (with_reducible rfl))
          try simp only [List.getElem_toArray, List.getElem_cons_succ, List.getElem_cons_zero, Act.put, List.setIfInBounds_toArray, List.set_cons_zero, List.set_cons_succ]
          refine' wpAnyH_take (i := 29) (oi := _) (v := _) rfl (by kernel_rfl) (by kernel_rfl) (by kernel_rfl) (fun _ _ _ h => h) (Or.inl ⟨by kernel_rfl, ?_⟩) (by assumption) ?_
          rotate_left
          · (intro w hSw; (try dsimp only at hSw); go_simp; try (with_reducible rfl))
          try simp only [List.getElem_toArray, List.getElem_cons_succ, List.getElem_cons_zero, Act.put, List.setIfInBounds_toArray, List.set_cons_zero, List.set_cons_succ]
          refine' wpAnyH_take (i := 30) (oi := _) (v := _) rfl (by kernel_rfl) (by kernel_rfl) (by kernel_rfl) (fun _ _ _ h => h) (Or.inl ⟨by kernel_rfl, ?_⟩) (by assumption) ?_
          rotate_left
          · (intro w hSw; (try dsimp only at hSw); go_simp; try (with_reducible rfl))
          try simp only [List.getElem_toArray, List.getElem_cons_succ, List.getElem_cons_zero, Act.put, List.setIfInBounds_toArray, List.set_cons_zero, List.set_cons_succ]
          refine' wpAnyH_take (i := 31) (oi := _) (v := _) rfl (by kernel_rfl) (by kernel_rfl) (by kernel_rfl) (fun _ _ _ h => h) (Or.inl ⟨by kernel_rfl, ?_⟩) (by assumption) ?_
          rotate_left
          · (intro w hSw; (try dsimp only at hSw); go_simp; try (with_reducible rfl))
          try simp only [List.getElem_toArray, List.getElem_cons_succ, List.getElem_cons_zero, Act.put, List.setIfInBounds_toArray, List.set_cons_zero, List.set_cons_succ]
          refine' wpAnyH_take (i := 32) (oi := _) (v := _) rfl (by kernel_rfl) (by kernel_rfl) (by kernel_rfl) (fun _ _ _ h => h) (Or.inl ⟨by kernel_rfl, ?_⟩) (by assumption) ?_
          rotate_left
          · (intro w hSw; (try dsimp only at hSw); go_simp; try (with_reducible rfl))
          try simp only [List.getElem_toArray, List.getElem_cons_succ, List.getElem_cons_zero, Act.put, List.setIfInBounds_toArray, List.set_cons_zero, List.set_cons_succ]
          refine' wpAnyH_take (i := 33) (oi := _) (v := _) rfl (by kernel_rfl) (by kernel_rfl) (by kernel_rfl) (fun _ _ _ h => h) (Or.inl ⟨by kernel_rfl, ?_⟩) (by assumption) ?_
          rotate_left
          · (intro w hSw; (try dsimp only at hSw); go_simp; try (with_reducible rfl))
          try simp only [List.getElem_toArray, List.getElem_cons_succ, List.getElem_cons_zero, Act.put, List.setIfInBounds_toArray, List.set_cons_zero, List.set_cons_succ]
          refine' wpAnyH_take (i := 34) (oi := _) (v := _) rfl (by kernel_rfl) (by kernel_rfl) (by kernel_rfl) (fun _ _ _ h => h) (Or.inl ⟨by kernel_rfl, ?_⟩) (by assumption) ?_
          rotate_left
          · (intro w hSw; (try dsimp only at hSw); go_simp; try (with_reducible rfl))
          try simp only [List.getElem_toArray, List.getElem_cons_succ, List.getElem_cons_zero, Act.put, List.setIfInBounds_toArray, List.set_cons_zero, List.set_cons_succ]
          refine' wpAnyH_take (i := 35) (oi := _) (v := _) rfl (by kernel_rfl) (by kernel_rfl) (by kernel_rfl) (fun _ _ _ h => h) (Or.inl ⟨by kernel_rfl, ?_⟩) (by assumption) ?_
          rotate_left
          · (intro w hSw; (try dsimp only at hSw); go_simp; try (with_reducible rfl))
          try simp only [List.getElem_toArray, List.getElem_cons_succ, List.getElem_cons_zero, Act.put, List.setIfInBounds_toArray, List.set_cons_zero, List.set_cons_succ]
          refine' wpAnyH_take (i := 36) (oi := _) (v := _) rfl (by kernel_rfl) (by kernel_rfl) (by kernel_rfl) (fun _ _ _ h => h) (Or.inl ⟨by kernel_rfl, ?_⟩) (by assumption) ?_
          rotate_left
          · (intro w hSw; (try dsimp only at hSw); go_simp; try (with_reducible rfl))
          try simp only [List.getElem_toArray, List.getElem_cons_succ, List.getElem_cons_zero, Act.put, List.setIfInBounds_toArray, List.set_cons_zero, List.set_cons_succ]
          refine' wpAnyH_take (i := 37) (oi := _) (v := _) rfl (by kernel_rfl) (by kernel_rfl) (by kernel_rfl) (fun _ _ _ h => h) (Or.inl ⟨by kernel_rfl, ?_⟩) (by assumption) ?_
          rotate_left
          · (intro w hSw; (try dsimp only at hSw); go_simp; try (with_reducible rfl))
          try simp only [List.getElem_toArray, List.getElem_cons_succ, List.getElem_cons_zero, Act.put, List.setIfInBounds_toArray, List.set_cons_zero, List.set_cons_succ]
          refine' wpAnyH_take (i := 38) (oi := _) (v := _) rfl (by kernel_rfl) (by kernel_rfl) (by kernel_rfl) (fun _ _ _ h => h) (Or.inl ⟨by kernel_rfl, ?_⟩) (by assumption) ?_
          rotate_left
          · (intro w hSw; (try dsimp only at hSw); go_simp; try (with_reducible rfl))
          try simp only [List.getElem_toArray, List.getElem_cons_succ, List.getElem_cons_zero, Act.put, List.setIfInBounds_toArray, List.set_cons_zero, List.set_cons_succ]
          refine' wpAnyH_take (i := 39) (oi := _) (v := _) rfl (by kernel_rfl) (by kernel_rfl) (by kernel_rfl) (fun _ _ _ h => h) (Or.inl ⟨by kernel_rfl, ?_⟩) (by assumption) ?_
          rotate_left
          · (intro w hSw; (try dsimp only at hSw); go_simp; try (with_reducible rfl))
          try simp only [List.getElem_toArray, List.getElem_cons_succ, List.getElem_cons_zero, Act.put, List.setIfInBounds_toArray, List.set_cons_zero, List.set_cons_succ]
          refine' wpAnyH_take (i := 40) (oi := _) (v := _) rfl (by kernel_rfl) (by kernel_rfl) (by kernel_rfl) (fun _ _ _ h => h) (Or.inl ⟨by kernel_rfl, ?_⟩) (by assumption) ?_
          rotate_left
          · (intro w hSw; (try dsimp only at hSw); go_simp; try (with_reducible rfl))
          try simp only [List.getElem_toArray, List.getElem_cons_succ, List.getElem_cons_zero, Act.put, List.setIfInBounds_toArray, List.set_cons_zero, List.set_cons_succ]
          refine' wpAnyH_take (i := 41) (oi := _) (v := _) rfl (by kernel_rfl) (by kernel_rfl) (by kernel_rfl) (fun _ _ _ h => h) (Or.inl ⟨by kernel_rfl, ?_⟩) (by assumption) ?_
          rotate_left
          · (intro w hSw; (try dsimp only at hSw); go_simp; try (with_reducible rfl))
          try simp only [List.getElem_toArray, List.getElem_cons_succ, List.getElem_cons_zero, Act.put, List.setIfInBounds_toArray, List.set_cons_zero, List.set_cons_succ]
          refine' wpAnyH_take (i := 42) (oi := _) (v := _) rfl (by kernel_rfl) (by kernel_rfl) (by kernel_rfl) (fun _ _ _ h => h) (Or.inl ⟨by kernel_rfl, ?_⟩) (by assumption) ?_
          rotate_left
          · (intro w hSw; (try dsimp only at hSw); go_simp; try (with_reducible rfl))
          try simp only [List.getElem_toArray, List.getElem_cons_succ, List.getElem_cons_zero, Act.put, List.setIfInBounds_toArray, List.set_cons_zero, List.set_cons_succ]
          refine' wpAnyH_take (i := 43) (oi := _) (v := _) rfl (by kernel_rfl) (by kernel_rfl) (by kernel_rfl) (fun _ _ _ h => h) (Or.inl ⟨by kernel_rfl, ?_⟩) (by assumption) ?_
          rotate_left
          · (intro w hSw; (try dsimp only at hSw); go_simp; try (with_reducible rfl))
          try simp only [List.getElem_toArray, List.getElem_cons_succ, List.getElem_cons_zero, Act.put, List.setIfInBounds_toArray, List.set_cons_zero, List.set_cons_succ]
          refine' wpAnyH_take (i := 44) (oi := _) (v := _) rfl (by kernel_rfl) (by kernel_rfl) (by kernel_rfl) (fun _ _ _ h => h) (Or.inl ⟨by kernel_rfl, ?_⟩) (by assumption) ?_
          rotate_left
          · (intro w hSw; (try dsimp only at hSw); go_simp; try (with_reducible rfl))
          try simp only [List.getElem_toArray, List.getElem_cons_succ, List.getElem_cons_zero, Act.put, List.setIfInBounds_toArray, List.set_cons_zero, List.set_cons_succ]
          refine' wpAnyH_take (i := 45) (oi := _) (v := _) rfl (by kernel_rfl) (by kernel_rfl) (by kernel_rfl) (fun _ _ _ h => h) (Or.inl ⟨by kernel_rfl, ?_⟩) (by assumption) ?_
          rotate_left
          · (intro w hSw; (try dsimp only at hSw); go_simp; try (with_reducible rfl))
          try simp only [List.getElem_toArray, List.getElem_cons_succ, List.getElem_cons_zero, Act.put, List.setIfInBounds_toArray, List.set_cons_zero, List.set_cons_succ]
          refine' wpAnyH_take (i := 46) (oi := _) (v := _) rfl (by kernel_rfl) (by kernel_rfl) (by kernel_rfl) (fun _ _ _ h => h) (Or.inl ⟨by kernel_rfl, ?_⟩) (by assumption) ?_
          rotate_left
          · (intro w hSw; (try dsimp only at hSw); go_simp; try (with_reducible rfl))
          try simp only [List.getElem_toArray, List.getElem_cons_succ, List.getElem_cons_zero, Act.put, List.setIfInBounds_toArray, List.set_cons_zero, List.set_cons_succ]
          refine' wpAnyH_take (i := 47) (oi := _) (v := _) rfl (by kernel_rfl) (by kernel_rfl) (by kernel_rfl) (fun _ _ _ h => h) (Or.inl ⟨by kernel_rfl, ?_⟩) (by assumption) ?_
          rotate_left
          · (intro w hSw; (try dsimp only at hSw); go_simp; try (with_reducible rfl))
          try simp only [List.getElem_toArray, List.getElem_cons_succ, List.getElem_cons_zero, Act.put, List.setIfInBounds_toArray, List.set_cons_zero, List.set_cons_succ]
          refine' wpAnyH_take (i := 48) (oi := _) (v := _) rfl (by kernel_rfl) (by kernel_rfl) (by kernel_rfl) (fun _ _ _ h => h) (Or.inl ⟨by kernel_rfl, ?_⟩) (by assumption) ?_
          rotate_left
          · (intro w hSw; (try dsimp only at hSw); go_simp; try (with_reducible rfl))
          try simp only [List.getElem_toArray, List.getElem_cons_succ, List.getElem_cons_zero, Act.put, List.setIfInBounds_toArray, List.set_cons_zero, List.set_cons_succ]
          refine' wpAnyH_take (i := 49) (oi := _) (v := _) rfl (by kernel_rfl) (by kernel_rfl) (by kernel_rfl) (fun _ _ _ h => h) (Or.inl ⟨by kernel_rfl, ?_⟩) (by assumption) ?_
          rotate_left
          · (intro w hSw; (try dsimp only at hSw); go_simp; try (with_reducible rfl))
          try simp only [List.getElem_toArray, List.getElem_cons_succ, List.getElem_cons_zero, Act.put, List.setIfInBounds_toArray, List.set_cons_zero, List.set_cons_succ]
          refine' wpAnyH_take (i := 50) (oi := _) (v := _) rfl (by kernel_rfl) (by kernel_rfl) (by kernel_rfl) (fun _ _ _ h => h) (Or.inl ⟨by kernel_rfl, ?_⟩) (by assumption) ?_
          rotate_left
          · (intro w hSw; (try dsimp only at hSw); go_simp; try (with_reducible rfl))
          try simp only [List.getElem_toArray, List.getElem_cons_succ, List.getElem_cons_zero, Act.put, List.setIfInBounds_toArray, List.set_cons_zero, List.set_cons_succ]
          refine' wpAnyH_take (i := 51) (oi := _) (v := _) rfl (by kernel_rfl) (by kernel_rfl) (by kernel_rfl) (fun _ _ _ h => h) (Or.inl ⟨by kernel_rfl, ?_⟩) (by assumption) ?_
          rotate_left
          · (intro w hSw; (try dsimp only at hSw); go_simp; try (with_reducible rfl))
          try simp only [List.getElem_toArray, List.getElem_cons_succ, List.getElem_cons_zero, Act.put, List.setIfInBounds_toArray, List.set_cons_zero, List.set_cons_succ]
          refine' wpAnyH_take (i := 52) (oi := _) (v := _) rfl (by kernel_rfl) (by kernel_rfl) (by kernel_rfl) (fun _ _ _ h => h) (Or.inl ⟨by kernel_rfl, ?_⟩) (by assumption) ?_
          rotate_left
          · (intro w hSw; (try dsimp only at hSw); go_simp; try (with_reducible rfl))
          try simp only [List.getElem_toArray, List.getElem_cons_succ, List.getElem_cons_zero, Act.put, List.setIfInBounds_toArray, List.set_cons_zero, List.set_cons_succ]
          refine' wpAnyH_take (i := 53) (oi := _) (v := _) rfl (by kernel_rfl) (by kernel_rfl) (by kernel_rfl) (fun _ _ _ h => h) (Or.inl ⟨by kernel_rfl, ?_⟩) (by assumption) ?_
          rotate_left
          · (intro w hSw; (try dsimp only at hSw); go_simp; try (with_reducible rfl))
          try simp only [List.getElem_toArray, List.getElem_cons_succ, List.getElem_cons_zero, Act.put, List.setIfInBounds_toArray, List.set_cons_zero, List.set_cons_succ]
          refine' wpAnyH_take (i := 54) (oi := _) (v := _) rfl (by kernel_rfl) (by kernel_rfl) (by kernel_rfl) (fun _ _ _ h => h) (Or.inl ⟨by kernel_rfl, ?_⟩) (by assumption) ?_
          rotate_left
          · (intro w hSw; (try dsimp only at hSw); go_simp; try (with_reducible rfl))
          try simp only [List.getElem_toArray, List.getElem_cons_succ, List.getElem_cons_zero, Act.put, List.setIfInBounds_toArray, List.set_cons_zero, List.set_cons_succ]
          refine' wpAnyH_take (i := 55) (oi := _) (v := _) rfl (by kernel_rfl) (by kernel_rfl) (by kernel_rfl) (fun _ _ _ h => h) (Or.inl ⟨by kernel_rfl, ?_⟩) (by assumption) ?_
          rotate_left
          · (intro w hSw; (try dsimp only at hSw); go_simp; try (with_reducible rfl))
          try simp only [List.getElem_toArray, List.getElem_cons_succ, List.getElem_cons_zero, Act.put, List.setIfInBounds_toArray, List.set_cons_zero, List.set_cons_succ]
          refine' wpAnyH_take (i := 56) (oi := _) (v := _) rfl (by kernel_rfl) (by kernel_rfl) (by kernel_rfl) (fun _ _ _ h => h) (Or.inl ⟨by kernel_rfl, ?_⟩) (by assumption) ?_
          rotate_left
          · (intro w hSw; (try dsimp only at hSw); go_simp; try (with_reducible rfl))
          try simp only [List.getElem_toArray, List.getElem_cons_succ, List.getElem_cons_zero, Act.put, List.setIfInBounds_toArray, List.set_cons_zero, List.set_cons_succ]
          refine' wpAnyH_take (i := 57) (oi := _) (v := _) rfl (by kernel_rfl) (by kernel_rfl) (by kernel_rfl) (fun _ _ _ h => h) (Or.inl ⟨by kernel_rfl, ?_⟩) (by assumption) ?_
          rotate_left
          · (intro w hSw; (try dsimp only at hSw); go_simp; try (with_reducible rfl))
          try simp only [List.getElem_toArray, List.getElem_cons_succ, List.getElem_cons_zero, Act.put, List.setIfInBounds_toArray, List.set_cons_zero, List.set_cons_succ]
          refine' wpAnyH_take (i := 58) (oi := _) (v := _) rfl (by kernel_rfl) (by kernel_rfl) (by kernel_rfl) (fun _ _ _ h => h) (Or.inl ⟨by kernel_rfl, ?_⟩) (by assumption) ?_
          rotate_left
          · (intro w hSw; (try dsimp only at hSw); go_simp; try (with_reducible rfl))
          try simp only [List.getElem_toArray, List.getElem_cons_succ, List.getElem_cons_zero, Act.put, List.setIfInBounds_toArray, List.set_cons_zero, List.set_cons_succ]
          refine' wpAnyH_take (i := 59) (oi := _) (v := _) rfl (by kernel_rfl) (by kernel_rfl) (by kernel_rfl) (fun _ _ _ h => h) (Or.inl ⟨by kernel_rfl, ?_⟩) (by assumption) ?_
          rotate_left
          · (intro w hSw; (try dsimp only at hSw); go_simp; try (with_reducible rfl))
          try simp only [List.getElem_toArray, List.getElem_cons_succ, List.getElem_cons_zero, Act.put, List.setIfInBounds_toArray, List.set_cons_zero, List.set_cons_succ]
          refine' wpAnyH_take (i := 60) (oi := _) (v := _) rfl (by kernel_rfl) (by kernel_rfl) (by kernel_rfl) (fun _ _ _ h => h) (Or.inl ⟨by kernel_rfl, ?_⟩) (by assumption) ?_
          rotate_left
          · (intro w hSw; (try dsimp only at hSw); go_simp; try (with_reducible rfl))
          try simp only [List.getElem_toArray, List.getElem_cons_succ, List.getElem_cons_zero, Act.put, List.setIfInBounds_toArray, List.set_cons_zero, List.set_cons_succ]
          refine wpAnyH_ready (rs := [61]) (by kernel_rfl) (by simp) ?_
          refine (AllReadyH.cons (o := _) rfl (fun K hK => ?_) AllReadyH.nil)
          go_simp
          go_at_call 7
          with_reducible refine (CS.out V1 BV1.out).mono ?_
          rintro e X2 ⟨rfl, DbX2⟩
          have DX2 := hid (btr DV1.out DbX2)
          have BX2 := hid (btr BV1.out DbX2)
          (try go_wp2_with fail)
          refine hK.out _ _ ?_ (fun hHeld => ?_)
          · (try dsimp only); exact ⟨A0.out _ BX2.out, A1.out _ BX2.out, A2.out _ BX2.out, A3.out _ BX2.out, A4.out _ BX2.out, A5.out _ BX2.out, E0.out _ BX2.out, E1.out _ BX2.out, E2.out _ BX2.out, E3.out _ BX2.out, E4.out _ BX2.out, E5.out _ BX2.out⟩
          clear hK K
          try simp only [List.getElem_toArray, List.getElem_cons_succ, List.getElem_cons_zero, Act.put, List.setIfInBounds_toArray, List.set_cons_zero, List.set_cons_succ]
          refine' wpAnyH_take (i := 62) (oi := _) (v := _) rfl (by kernel_rfl) (by kernel_rfl) (by kernel_rfl) (fun _ _ _ h => h) (Or.inl ⟨by kernel_rfl, ?_⟩) (by assumption) ?_
          rotate_left
          · (intro w hSw; (try dsimp only at hSw); go_simp; try (with_reducible rfl))
          try simp only [List.getElem_toArray, List.getElem_cons_succ, List.getElem_cons_zero, Act.put, List.setIfInBounds_toArray, List.set_cons_zero, List.set_cons_succ]
          refine' wpAnyH_take (i := 63) (oi := _) (v := _) rfl (by kernel_rfl) (by kernel_rfl) (by kernel_rfl) (fun _ _ _ h => h) (Or.inl ⟨by kernel_rfl, ?_⟩) (by assumption) ?_
          rotate_left
          · (intro w hSw; (try dsimp only at hSw); go_simp; try (with_reducible rfl))
          try simp only [List.getElem_toArray, List.getElem_cons_succ, List.getElem_cons_zero, Act.put, List.setIfInBounds_toArray, List.set_cons_zero, List.set_cons_succ]
          refine wpAnyH_done (by kernel_rfl) ?_ _
          have BL := hid (btr BK.out BX2.out)
          clear A0 A1 A2 A3 A4 A5 E0 E1 E2 E3 E4 E5 CS BK
          go_wp2
          go_roundw
          case rel => exact ⟨j + 1, HLT.out, by go_num, BL⟩
          case measure => have := HLT.out; simp [intOf]; omega
        · obtain rfl : j = sn := by omega
          have jj : ¬ (j : Int) < (j : Int) := by omega
          obtain ⟨wb, rfl⟩ : ∃ x, x = wr := ⟨_, rfl⟩
          have HOA := hid (own_on HOA.out BK.out)
          have HOB := hid (own_on HOB.out BK.out)
          have HAB := hid (emt_on HAB.out BK.out)
          have BWB := hid (btr BWA.out BK.out)
          have hk : r.length ≤ 1000000000 := by rw [HRN.out]; have := HLE.out; have := HM.out; have := HN.out; omega
          have hk2 : R.length ≤ 1000000000 := by rw [HSN.out]; have := HLE.out; have := HM.out; have := HN.out; omega
          have H8 := hid (dues_any (c := dr) (nz_of HOA.out HRN.out) HTQ.out.ok hk)
          have H9 := hid (show ∀ U, Below wb.heap.size wb U → Calls Try.prog 9 #[.slice qs R.length ds] U fun e w' => RDuP U.heap.size w' e (dues (fun _ => none) (nea R)) ∧ Below U.heap.size U w' from fun U h => rdues_any (c := ds) (ez_of (own_on HOB.out h) HSN.out (emt_on HAB.out h)) (fun x hx => HTT.out.ok x.nt (List.mem_map.2 ⟨x, hx, rfl⟩)) hk2)
          have hnm : nma r = nea R := by rw [← HRR.out]; unfold nma nea nev; rw [List.map_map]; rfl
          rw [HRN.out, hnm] at H8
          rw [HSN.out] at H9
          obtain ⟨D, hD⟩ : ∃ D, dues (fun _ => none) (nea R) = D := ⟨_, rfl⟩
          rw [hD] at H8 H9
          clear hlt hjn hD hk hk2 hnm HRR HRN HSN HTQ HTT HSR HLE
          go_upto_region 17 with (go_at_call 8; (with_reducible refine H8.out.mono ?_); rintro e w3 ⟨hd, hbx⟩; obtain ⟨r1, qt, dt, rn, hrn, rfl, htq, hor⟩ := du_form hd; have B3 := hid hbx; have HRN := hid hrn; have HTQ := hid htq; have HOR := hid hor; clear hbx hd hrn htq hor)
          go_upto_region 18 with (go_at_call 9; (with_reducible refine (H9.out w3 B3.out).mono ?_); rintro e w4 ⟨hd, hbx⟩; obtain ⟨R1, qu, du, tn, hsn, rfl, htq, hor, has⟩ := rdu_form hd; have B4 := hid hbx; have HSN := hid hsn; have HTS := hid htq; have HOS := hid hor; have HAS := hid has; clear hbx hd hsn htq hor has)
          obtain ⟨ec, hec⟩ : ∃ x, ecd D = x := ⟨_, rfl⟩
          rw [hec]
          have HRR := hid (show dmv R1 = r1 from (HTQ.out.uniq HTS.out).symm)
          have HSR := hid (show tn = rn from by rw [← HSN.out, ← HRN.out, ← HRR.out]; unfold dmv; rw [List.length_map])
          have hsr := HSR.out
          subst hsr
          have hne2 : (ec != ec) = false := by simp
          have hnn2 : ((tn : Int) != (tn : Int)) = false := by simp
          have HO1 := hid (own_on HOR.out B4.out)
          have BW4 := hid (btr BWB.out (btr B3.out B4.out))
          clear hec H8 H9
          go_upto_region 20 with fail
          go_upto_region 21 with fail
          go_loopw [14] (fun iv wr => ∃ (j : Nat), j ≤ tn ∧ iv = .int .i64 (j : Nat) ∧ Hid (Below w4.heap.size w4 wr)) (fun iv _ => tn - (intOf iv).toNat)
          case atStart => exact ⟨0, Nat.zero_le _, rfl, Below.refl _ _⟩
          case round =>
            obtain ⟨j, hjn, rfl, BM⟩ := hrel
            by_cases hlt : j < tn
            · obtain ⟨ga, rfl, _, hga⟩ := own_some HO1.out (by omega)
              obtain ⟨gb, rfl, _, hgb⟩ := own_some HOS.out (by omega)
              have hj' : j < R1.length := by rw [HSN.out]; exact hlt
              have HSP := hid (show R1 = R1.take j ++ R1[j] :: R1.drop (j + 1) from by rw [← List.drop_eq_getElem_cons hj', List.take_append_drop])
              have HTL := hid (show (R1.take j).length = j from by rw [List.length_take]; omega)
              have HYA := hid (HAS.out R1[j] (List.getElem_mem hj'))
              have HYM := hid (HTQ.out.amt (R1[j].m, R1[j].v) (by rw [← HRR.out]; exact List.mem_map.2 ⟨_, List.getElem_mem hj', rfl⟩))
              generalize R1[j] = y at HSP HYA HYM
              obtain ⟨ym, yv, yb, yp, yn, yc⟩ := y
              have hcb : ∀ e u, e < 3 → (rce ⟨ym, yv, yb, yp, yn, yc⟩)[e]? = some u → ∀ U, Below w4.heap.size w4 U → U.cell? ⟨gb, j * 3 + e, none⟩ = some u := fun e u he hu U hU => by
                have h1 := (Dm.own_cells HOS.out).2 (j * 3 + e) u (by
                  have h0 := rcs_at (R1.take j) (R1.drop (j + 1)) ⟨ym, yv, yb, yp, yn, yc⟩ e he
                  rw [HTL.out, ← HSP.out] at h0
                  exact h0.trans hu)
                rw [Addr.add_lit, Nat.zero_add] at h1
                exact (hU.cell (p := ⟨gb, j * 3 + e, none⟩) hgb).trans h1
              have hca : ∀ e u, e < 3 → ([.int .u32 ym, .int .u64 (hiW yv), .int .u64 (loW yv)] : List Value)[e]? = some u → ∀ U, Below w4.heap.size w4 U → U.cell? ⟨ga, j * 3 + e, none⟩ = some u := fun e u he hu U hU => by
                have hr : r1 = dmv (R1.take j) ++ (ym, yv) :: dmv (R1.drop (j + 1)) := by
                  rw [← HRR.out]
                  have h0 := congrArg dmv HSP.out
                  unfold dmv at h0 ⊢
                  rw [List.map_append, List.map_cons] at h0
                  exact h0
                have hlj : j < r1.length := by rw [HRN.out]; exact hlt
                have h1 := (Dm.own_cells HO1.out).2 (j * 3 + e) u (by
                  have h0 := flat_at 3 (fun x : Int × Int => ([.int .u32 x.1, .int .u64 (hiW x.2), .int .u64 (loW x.2)] : List Value)) (fun _ => rfl) r1 j e hlj he
                  have e1 : r1[j] = (ym, yv) := by
                    have e2 : (dmv (R1.take j)).length = j := by unfold dmv; rw [List.length_map]; exact HTL.out
                    have e3 : r1[j]? = some (ym, yv) := by
                      rw [hr, List.getElem?_append_right (by rw [e2]; exact Nat.le_refl _), e2, Nat.sub_self]
                      rfl
                    rw [List.getElem?_eq_getElem hlj] at e3
                    exact Option.some.inj e3
                  rw [e1] at h0
                  exact h0.trans hu)
                rw [Addr.add_lit, Nat.zero_add] at h1
                exact (hU.cell (p := ⟨ga, j * 3 + e, none⟩) hga).trans h1
              have A0 := hid (show ∀ U, Below wr.heap.size wr U → U.cell? ⟨ga, j * 3, none⟩ = some (.int .u32 ym) from fun U h => hca 0 _ (by decide) rfl U (btr BM.out h))
              have A1 := hid (show ∀ U, Below wr.heap.size wr U → U.cell? ⟨ga, j * 3 + 1, none⟩ = some (.int .u64 (hiW yv)) from fun U h => hca 1 _ (by decide) rfl U (btr BM.out h))
              have A2 := hid (show ∀ U, Below wr.heap.size wr U → U.cell? ⟨ga, j * 3 + 2, none⟩ = some (.int .u64 (loW yv)) from fun U h => hca 2 _ (by decide) rfl U (btr BM.out h))
              have E0 := hid (show ∀ U, Below wr.heap.size wr U → U.cell? ⟨gb, j * 3, none⟩ = some (.int .u32 ym) from fun U h => hcb 0 _ (by decide) rfl U (btr BM.out h))
              have E1 := hid (show ∀ U, Below wr.heap.size wr U → U.cell? ⟨gb, j * 3 + 1, none⟩ = some (.bool yb) from fun U h => hcb 1 _ (by decide) rfl U (btr BM.out h))
              have E2 := hid (show ∀ U, Below wr.heap.size wr U → U.cell? ⟨gb, j * 3 + 2, none⟩ = some (.slice yp yn yc) from fun U h => hcb 2 _ (by decide) rfl U (btr BM.out h))
              have CS := hid (show ∀ U, Below wr.heap.size wr U → Calls Try.prog 7 #[.agg #[.int .u64 (hiW yv), .int .u64 (loW yv)], .agg #[.bool yb, .slice yp yn yc]] U fun e w' => e = .returned (.bool true) ∧ Below U.heap.size U w' from fun U h => same_any yv yb yp yn yc U HYM.out (HYA.out.on (btr BM.out h)))
              have j0 : (0 : Int) ≤ (j : Int) := by omega
              have j1 : (j : Int) < (tn : Int) := by omega
              have kca : tn ≤ dt := (own_cap HO1.out).1
              have kcb : tn ≤ du := (own_cap HOS.out).1
              have wj : IntKind.i64.wrap ((j : Int) + 1) = ((j + 1 : Nat) : Int) := by have := (own_cap HO1.out).2.1; unfold maxLen at this; rw [IntKind.wrap_i64]; omega
              have HLT := hid hlt
              clear hlt hjn hj' hga hgb hca hcb
              go_upto_region 23 with fail
              obtain ⟨V3, hV3⟩ : ∃ U, wr.drew = U := ⟨_, rfl⟩
              have DV3 := hid (show Below wr.heap.size wr V3 from by rw [← hV3]; exact bdrew1 _)
              have BV3 := hid (btr (Below.refl wr.heap.size wr) DV3.out)
              refine wp_region_held_drew (S := fun U => U.cell? ⟨ga, j * 3, none⟩ = some (.int .u32 ym) ∧ U.cell? ⟨ga, j * 3 + 1, none⟩ = some (.int .u64 (hiW yv)) ∧ U.cell? ⟨ga, j * 3 + 2, none⟩ = some (.int .u64 (loW yv)) ∧ U.cell? ⟨gb, j * 3, none⟩ = some (.int .u32 ym) ∧ U.cell? ⟨gb, j * 3 + 1, none⟩ = some (.bool yb) ∧ U.cell? ⟨gb, j * 3 + 2, none⟩ = some (.slice yp yn yc)) (by kernel_rfl) ?_ (fun hHeld => ?_)
              · (try dsimp only); rw [hV3]; exact ⟨A0.out _ BV3.out, A1.out _ BV3.out, A2.out _ BV3.out, E0.out _ BV3.out, E1.out _ BV3.out, E2.out _ BV3.out⟩
              rw [hV3] at hHeld ⊢
              clear hV3
              refine' wpAnyH_take (i := 0) (oi := _) (v := _) rfl (by kernel_rfl) (by kernel_rfl) (by kernel_rfl) (fun _ _ _ h => h) (Or.inl ⟨by kernel_rfl, ?_⟩) (by assumption) ?_
              rotate_left
              · (intro w hSw; (try dsimp only at hSw); go_simp; try (with_reducible rfl))
              try simp only [List.getElem_toArray, List.getElem_cons_succ, List.getElem_cons_zero, Act.put, List.setIfInBounds_toArray, List.set_cons_zero, List.set_cons_succ]
              refine' wpAnyH_take (i := 1) (oi := _) (v := _) rfl (by kernel_rfl) (by kernel_rfl) (by kernel_rfl) (fun _ _ _ h => h) (Or.inl ⟨by kernel_rfl, ?_⟩) (by assumption) ?_
              rotate_left
              · (intro w hSw; (try dsimp only at hSw); go_simp; try (with_reducible rfl))
              try simp only [List.getElem_toArray, List.getElem_cons_succ, List.getElem_cons_zero, Act.put, List.setIfInBounds_toArray, List.set_cons_zero, List.set_cons_succ]
              refine' wpAnyH_take (i := 2) (oi := _) (v := _) rfl (by kernel_rfl) (by kernel_rfl) (by kernel_rfl) (fun _ _ _ h => h) (Or.inl ⟨by kernel_rfl, ?_⟩) (by assumption) ?_
              rotate_left
              · (intro w hSw; (try dsimp only at hSw); go_simp; try (with_reducible rfl))
              try simp only [List.getElem_toArray, List.getElem_cons_succ, List.getElem_cons_zero, Act.put, List.setIfInBounds_toArray, List.set_cons_zero, List.set_cons_succ]
              refine' wpAnyH_take (i := 3) (oi := _) (v := _) rfl (by kernel_rfl) (by kernel_rfl) (by kernel_rfl) (fun _ _ _ h => h) (Or.inl ⟨by kernel_rfl, ?_⟩) (by assumption) ?_
              rotate_left
              · (intro w hSw; (try dsimp only at hSw); go_simp; try (with_reducible rfl))
              try simp only [List.getElem_toArray, List.getElem_cons_succ, List.getElem_cons_zero, Act.put, List.setIfInBounds_toArray, List.set_cons_zero, List.set_cons_succ]
              refine' wpAnyH_take (i := 4) (oi := _) (v := _) rfl (by kernel_rfl) (by kernel_rfl) (by kernel_rfl) (fun _ _ _ h => h) (Or.inl ⟨by kernel_rfl, ?_⟩) (by assumption) ?_
              rotate_left
              · (intro w hSw; (try dsimp only at hSw); go_simp; try (with_reducible rfl))
              try simp only [List.getElem_toArray, List.getElem_cons_succ, List.getElem_cons_zero, Act.put, List.setIfInBounds_toArray, List.set_cons_zero, List.set_cons_succ]
              refine' wpAnyH_take (i := 5) (oi := _) (v := _) rfl (by kernel_rfl) (by kernel_rfl) (by kernel_rfl) (fun _ _ _ h => h) (Or.inl ⟨by kernel_rfl, ?_⟩) (by assumption) ?_
              rotate_left
              · (intro w hSw; (try dsimp only at hSw); go_simp; try (with_reducible rfl))
              try simp only [List.getElem_toArray, List.getElem_cons_succ, List.getElem_cons_zero, Act.put, List.setIfInBounds_toArray, List.set_cons_zero, List.set_cons_succ]
              refine' wpAnyH_take (i := 6) (oi := _) (v := _) rfl (by kernel_rfl) (by kernel_rfl) (by kernel_rfl) (fun _ _ _ h => h) (Or.inl ⟨by kernel_rfl, ?_⟩) (by assumption) ?_
              rotate_left
              · (intro w hSw; (try dsimp only at hSw); go_simp; try (with_reducible rfl))
              try simp only [List.getElem_toArray, List.getElem_cons_succ, List.getElem_cons_zero, Act.put, List.setIfInBounds_toArray, List.set_cons_zero, List.set_cons_succ]
              refine' wpAnyH_take (i := 7) (oi := _) (v := _) rfl (by kernel_rfl) (by kernel_rfl) (by kernel_rfl) (fun _ _ _ h => h) (Or.inl ⟨by kernel_rfl, ?_⟩) (by assumption) ?_
              rotate_left
              · (intro w hSw; (try dsimp only at hSw); go_simp; try (with_reducible rfl))
              try simp only [List.getElem_toArray, List.getElem_cons_succ, List.getElem_cons_zero, Act.put, List.setIfInBounds_toArray, List.set_cons_zero, List.set_cons_succ]
              refine' wpAnyH_take (i := 8) (oi := _) (v := _) rfl (by kernel_rfl) (by kernel_rfl) (by kernel_rfl) (fun _ _ _ h => h) (Or.inl ⟨by kernel_rfl, ?_⟩) (by assumption) ?_
              rotate_left
              · (intro w hSw; (try dsimp only at hSw); go_simp; try (with_reducible rfl))
              try simp only [List.getElem_toArray, List.getElem_cons_succ, List.getElem_cons_zero, Act.put, List.setIfInBounds_toArray, List.set_cons_zero, List.set_cons_succ]
              refine' wpAnyH_take (i := 9) (oi := _) (v := _) rfl (by kernel_rfl) (by kernel_rfl) (by kernel_rfl) (fun _ _ _ h => h) (Or.inl ⟨by kernel_rfl, ?_⟩) (by assumption) ?_
              rotate_left
              · (intro w hSw; (try dsimp only at hSw); go_simp; try (with_reducible rfl))
              try simp only [List.getElem_toArray, List.getElem_cons_succ, List.getElem_cons_zero, Act.put, List.setIfInBounds_toArray, List.set_cons_zero, List.set_cons_succ]
              refine' wpAnyH_take (i := 10) (oi := _) (v := _) rfl (by kernel_rfl) (by kernel_rfl) (by kernel_rfl) (fun _ _ _ h => h) (Or.inl ⟨by kernel_rfl, ?_⟩) (by assumption) ?_
              rotate_left
              · (intro w hSw; (try dsimp only at hSw); go_simp; try (with_reducible rfl))
              try simp only [List.getElem_toArray, List.getElem_cons_succ, List.getElem_cons_zero, Act.put, List.setIfInBounds_toArray, List.set_cons_zero, List.set_cons_succ]
              refine' wpAnyH_take (i := 11) (oi := _) (v := _) rfl (by kernel_rfl) (by kernel_rfl) (by kernel_rfl) (fun _ _ _ h => h) (Or.inl ⟨by kernel_rfl, ?_⟩) (by assumption) ?_
              rotate_left
              · (intro w hSw; (try dsimp only at hSw); go_simp; try (with_reducible rfl))
              try simp only [List.getElem_toArray, List.getElem_cons_succ, List.getElem_cons_zero, Act.put, List.setIfInBounds_toArray, List.set_cons_zero, List.set_cons_succ]
              refine' wpAnyH_take (i := 12) (oi := _) (v := _) rfl (by kernel_rfl) (by kernel_rfl) (by kernel_rfl) (fun _ _ _ h => h) (Or.inl ⟨by kernel_rfl, ?_⟩) (by assumption) ?_
              rotate_left
              · (intro w hSw; (try dsimp only at hSw); go_simp; try (with_reducible rfl))
              try simp only [List.getElem_toArray, List.getElem_cons_succ, List.getElem_cons_zero, Act.put, List.setIfInBounds_toArray, List.set_cons_zero, List.set_cons_succ]
              refine' wpAnyH_take (i := 13) (oi := _) (v := _) rfl (by kernel_rfl) (by kernel_rfl) (by kernel_rfl) (fun _ _ _ h => h) (Or.inl ⟨by kernel_rfl, ?_⟩) (by assumption) ?_
              rotate_left
              · (intro w hSw; (try dsimp only at hSw); go_simp; try (with_reducible rfl))
              try simp only [List.getElem_toArray, List.getElem_cons_succ, List.getElem_cons_zero, Act.put, List.setIfInBounds_toArray, List.set_cons_zero, List.set_cons_succ]
              refine' wpAnyH_take (i := 14) (oi := _) (v := _) rfl (by kernel_rfl) (by kernel_rfl) (by kernel_rfl) (fun _ _ _ h => h) (Or.inl ⟨by kernel_rfl, ?_⟩) (by assumption) ?_
              rotate_left
              · (intro w hSw; (try dsimp only at hSw); go_simp; try (with_reducible rfl))
              try simp only [List.getElem_toArray, List.getElem_cons_succ, List.getElem_cons_zero, Act.put, List.setIfInBounds_toArray, List.set_cons_zero, List.set_cons_succ]
              refine' wpAnyH_take (i := 15) (oi := _) (v := _) rfl (by kernel_rfl) (by kernel_rfl) (by kernel_rfl) (fun _ _ _ h => h) (Or.inl ⟨by kernel_rfl, ?_⟩) (by assumption) ?_
              rotate_left
              · (intro w hSw; (try dsimp only at hSw); go_simp; try (with_reducible rfl))
              try simp only [List.getElem_toArray, List.getElem_cons_succ, List.getElem_cons_zero, Act.put, List.setIfInBounds_toArray, List.set_cons_zero, List.set_cons_succ]
              refine' wpAnyH_take (i := 16) (oi := _) (v := _) rfl (by kernel_rfl) (by kernel_rfl) (by kernel_rfl) (fun _ _ _ h => h) (Or.inl ⟨by kernel_rfl, ?_⟩) (by assumption) ?_
              rotate_left
              · (intro w hSw; (try dsimp only at hSw); go_simp; try (with_reducible rfl))
              try simp only [List.getElem_toArray, List.getElem_cons_succ, List.getElem_cons_zero, Act.put, List.setIfInBounds_toArray, List.set_cons_zero, List.set_cons_succ]
              refine' wpAnyH_take (i := 17) (oi := _) (v := _) rfl (by kernel_rfl) (by kernel_rfl) (by kernel_rfl) (fun _ _ _ h => h) (Or.inl ⟨by kernel_rfl, ?_⟩) (by assumption) ?_
              rotate_left
              · (intro w hSw; (try dsimp only at hSw); go_simp; try (with_reducible rfl))
              try simp only [List.getElem_toArray, List.getElem_cons_succ, List.getElem_cons_zero, Act.put, List.setIfInBounds_toArray, List.set_cons_zero, List.set_cons_succ]
              refine' wpAnyH_take (i := 18) (oi := _) (v := _) rfl (by kernel_rfl) (by kernel_rfl) (by kernel_rfl) (fun _ _ _ h => h) (Or.inl ⟨by kernel_rfl, ?_⟩) (by assumption) ?_
              rotate_left
              · (intro w hSw; (try dsimp only at hSw); go_simp; try (with_reducible rfl))
              try simp only [List.getElem_toArray, List.getElem_cons_succ, List.getElem_cons_zero, Act.put, List.setIfInBounds_toArray, List.set_cons_zero, List.set_cons_succ]
              refine' wpAnyH_take (i := 19) (oi := _) (v := _) rfl (by kernel_rfl) (by kernel_rfl) (by kernel_rfl) (fun _ _ _ h => h) (Or.inl ⟨by kernel_rfl, ?_⟩) (by assumption) ?_
              rotate_left
              · (intro w hSw; (try dsimp only at hSw); go_simp; try (with_reducible rfl))
              try simp only [List.getElem_toArray, List.getElem_cons_succ, List.getElem_cons_zero, Act.put, List.setIfInBounds_toArray, List.set_cons_zero, List.set_cons_succ]
              refine' wpAnyH_take (i := 20) (oi := _) (v := _) rfl (by kernel_rfl) (by kernel_rfl) (by kernel_rfl) (fun _ _ _ h => h) (Or.inl ⟨by kernel_rfl, ?_⟩) (by assumption) ?_
              rotate_left
              · (intro w hSw; (try dsimp only at hSw); go_simp; try (with_reducible rfl))
              try simp only [List.getElem_toArray, List.getElem_cons_succ, List.getElem_cons_zero, Act.put, List.setIfInBounds_toArray, List.set_cons_zero, List.set_cons_succ]
              refine' wpAnyH_take (i := 21) (oi := _) (v := _) rfl (by kernel_rfl) (by kernel_rfl) (by kernel_rfl) (fun _ _ _ h => h) (Or.inl ⟨by kernel_rfl, ?_⟩) (by assumption) ?_
              rotate_left
              · (intro w hSw; (try dsimp only at hSw); go_simp; try (with_reducible rfl))
              try simp only [List.getElem_toArray, List.getElem_cons_succ, List.getElem_cons_zero, Act.put, List.setIfInBounds_toArray, List.set_cons_zero, List.set_cons_succ]
              refine wpAnyH_ready (rs := [22]) (by kernel_rfl) (by simp) ?_
              refine (AllReadyH.cons (o := _) rfl (fun K hK => ?_) AllReadyH.nil)
              go_simp
              go_at_call 7
              with_reducible refine (CS.out V3 BV3.out).mono ?_
              rintro e X4 ⟨rfl, DbX4⟩
              have DX4 := hid (btr DV3.out DbX4)
              have BX4 := hid (btr BV3.out DbX4)
              (try go_wp2_with fail)
              refine hK.out _ _ ?_ (fun hHeld => ?_)
              · (try dsimp only); exact ⟨A0.out _ BX4.out, A1.out _ BX4.out, A2.out _ BX4.out, E0.out _ BX4.out, E1.out _ BX4.out, E2.out _ BX4.out⟩
              clear hK K
              try simp only [List.getElem_toArray, List.getElem_cons_succ, List.getElem_cons_zero, Act.put, List.setIfInBounds_toArray, List.set_cons_zero, List.set_cons_succ]
              refine' wpAnyH_take (i := 23) (oi := _) (v := _) rfl (by kernel_rfl) (by kernel_rfl) (by kernel_rfl) (fun _ _ _ h => h) (Or.inl ⟨by kernel_rfl, ?_⟩) (by assumption) ?_
              rotate_left
              · (intro w hSw; (try dsimp only at hSw); go_simp; try (with_reducible rfl))
              try simp only [List.getElem_toArray, List.getElem_cons_succ, List.getElem_cons_zero, Act.put, List.setIfInBounds_toArray, List.set_cons_zero, List.set_cons_succ]
              refine' wpAnyH_take (i := 24) (oi := _) (v := _) rfl (by kernel_rfl) (by kernel_rfl) (by kernel_rfl) (fun _ _ _ h => h) (Or.inl ⟨by kernel_rfl, ?_⟩) (by assumption) ?_
              rotate_left
              · (intro w hSw; (try dsimp only at hSw); go_simp; try (with_reducible rfl))
              try simp only [List.getElem_toArray, List.getElem_cons_succ, List.getElem_cons_zero, Act.put, List.setIfInBounds_toArray, List.set_cons_zero, List.set_cons_succ]
              refine wpAnyH_done (by kernel_rfl) ?_ _
              have BN := hid (btr BM.out BX4.out)
              clear A0 A1 A2 E0 E1 E2 CS BM
              go_wp2
              go_roundw
              case rel => exact ⟨j + 1, HLT.out, by go_num, BN⟩
              case measure => have := HLT.out; simp [intOf]; omega
            · obtain rfl : j = tn := by omega
              have jj2 : ¬ (j : Int) < (j : Int) := by omega
              clear hlt hjn
              go_wp2
              go_ret
              exact ⟨rfl, btr BW4.out BM.out⟩
end Go.Proofs.Ytegdhffejmbakaa.Ac
