/-
  How many events a command can tell: an order shows itself so many times at most.
-/
import Derived.Test.YtojmcfkbekodpaaKs
import Derived.Test.YtojmcfkbekodpaaKt
namespace Go.Proofs.Ytojmcfkbekodpaa
open Go.RowKit Go.Deep Go.Shelf
set_option linter.unusedVariables false
set_option linter.unusedSimpArgs false
set_option maxHeartbeats 1000000
set_option maxRecDepth 100000
/-- how often an order may still be met to the end. -/
def sho (x : Or) : Nat := 1 + ((x.hi + x.pk - 1) / x.pk).toNat
def shs : LO → Nat
  | [] => 0
  | x :: r => sho x.2 + shs r
theorem shs_perm {a b : LO} (h : a.Perm b) : shs a = shs b := by
  induction h with
  | nil => rfl
  | cons x _ ih => simp only [shs]; omega
  | swap x y l => simp only [shs]; omega
  | trans _ _ h1 h2 => omega
theorem sho_pos (x : Or) : 1 ≤ sho x := by unfold sho; omega
theorem sho_le {x : Or} (h : OrS x) : sho x ≤ 257 := by
  unfold sho
  by_cases hp : x.pk = 0
  · rw [hp]; simp
  · have a := h.so hp
    have b := h.k0
    have c := h.vi
    have d := h.hi
    have : (x.hi + x.pk - 1) / x.pk ≤ 256 := by
      apply Int.le_of_lt_add_one
      apply Int.ediv_lt_of_lt_mul (by omega)
      omega
    omega
theorem shs_le : ∀ l : LO, (∀ x ∈ l, OrS x.2) → shs l ≤ 257 * l.length
  | [], _ => by simp [shs]
  | x :: r, h => by
    have a := sho_le (h x List.mem_cons_self)
    have b := shs_le r (fun y hy => h y (List.mem_cons_of_mem _ hy))
    simp only [shs, List.length_cons]
    omega
theorem sho_shn {x : Or} {q : Int} (h : OrS x) (hB : ¬ x.hi = 0) : sho (x.less q).shn + 1 ≤ sho x := by
  have hp : x.pk ≠ 0 := fun e => hB (h.no e)
  have k0 := h.k0
  have h0 := h.hi
  have e2 : (x.less q).shn.hi = (shw x.pk x.hi).2 := rfl
  have e3 : (x.less q).shn.pk = x.pk := rfl
  unfold sho
  rw [e2, e3]
  unfold shw
  split
  · rename_i e
    have hlt : x.hi < x.pk := by rcases e with e | e <;> omega
    show 1 + ((0 + x.pk - 1) / x.pk).toNat + 1 ≤ _
    have z : (0 + x.pk - 1) / x.pk = 0 := Int.ediv_eq_zero_of_lt (by omega) (by omega)
    have z1 : 1 ≤ (x.hi + x.pk - 1) / x.pk := by
      rw [Int.le_ediv_iff_mul_le (by omega)]
      omega
    rw [z]
    omega
  · show 1 + ((x.hi - x.pk + x.pk - 1) / x.pk).toNat + 1 ≤ _
    have z : (x.hi + x.pk - 1) / x.pk = (x.hi - 1) / x.pk + 1 := by
      rw [show x.hi + x.pk - 1 = x.hi - 1 + x.pk by omega, Int.add_ediv_of_dvd_right (Int.dvd_refl _), Int.ediv_self hp]
    have z0 : 0 ≤ (x.hi - 1) / x.pk := Int.ediv_nonneg (by omega) (by omega)
    rw [show x.hi - x.pk + x.pk - 1 = x.hi - 1 by omega, z]
    omega
theorem mtB_shs {b : Bs} {o : Or} {s q : Int} {f : Nat} {x : Or} {r : LO} (hs : s = 1 ∨ s = 2) (hl : b.sl (oth s) = (f, x) :: r) (hq : 0 < q) (hx : OrS x) : (mtB b o s q f x r).2.2 = 0 ∨ shs ((mtB b o s q f x r).1.sl (oth s)) + 1 ≤ shs (b.sl (oth s)) := by
  have hS := oth_side hs
  have hv := hx.vi
  have hdel : (b.del (oth s) 0).sl (oth s) = r := by
    unfold Bs.del
    rw [(b.put_sl (oth s) hS _ _ _).1, hl]
    rfl
  have hp := sho_pos x
  rw [hl]
  simp only [shs]
  unfold mtB
  split
  · by_cases hqv : q ≤ x.vi
    · left
      show q - min q x.vi = 0
      omega
    · right
      have hm : min q x.vi = x.vi := by omega
      rw [hm]
      show shs (((trb b x x.vi).put (oth s) _ _ (trl (oth s) f x r x.vi)).sl (oth s)) + 1 ≤ _
      rw [(Bs.put_sl _ (oth s) hS _ _ _).1]
      unfold trl
      rw [if_neg (by omega)]
      split
      · omega
      · rename_i hB
        rw [shs_perm (agn_perm _ _)]
        have := sho_shn (q := x.vi) hx hB
        simp only [shs]
        omega
  · split
    · exact .inl rfl
    · split
      · right
        show shs ((b.del (oth s) 0).sl (oth s)) + 1 ≤ _
        rw [hdel]
        omega
      · exact .inl rfl
theorem cms_len2 {o : Or} {s : Int} (hs : s = 1 ∨ s = 2) : ∀ (n : Nat) (b : Bs) (es : List Ev) (q : Int), Vb b → Snd b → 0 ≤ q → (cms o s n (b, es, q)).2.1.length ≤ es.length + (if q = 0 then 0 else 2 * shs (b.sl (oth s)) + 2)
  | 0, b, es, q, v, k, hq => by show es.length ≤ _; omega
  | n + 1, b, es, q, v, k, hq => by
    by_cases hc : 0 < q ∧ mts b o s = true
    · obtain ⟨f, x, r, hl⟩ := mts_cons hc.2
      rw [cms_step hc hl]
      obtain ⟨v', m', l2, q0, q1⟩ := v.met (o := o) hs hl hc.1
      have hx := k.ok (oth s) (f, x) (by rw [hl]; simp)
      have ih := cms_len2 (o := o) hs n (mtB b o s q f x r).1 (es ++ (mtB b o s q f x r).2.1) (mtB b o s q f x r).2.2 v' ((mtB_sbp hs hl hc.1 (v.ok (oth s) (f, x) (by rw [hl]; simp)).1).snd k) q0
      rw [List.length_append] at ih
      rw [if_neg (by omega)]
      rcases mtB_shs (o := o) hs hl hc.1 hx with h | h
      · rw [if_pos h] at ih
        omega
      · split at ih <;> omega
    · rw [cms_end hc]
      show es.length ≤ _
      omega
theorem sl_lns {b : Bs} (g : Gb b) (S : Int) : (b.sl S).length ≤ 4096 := by
  have a := g.len
  have c := g.cap
  unfold lns at a
  unfold Bs.sl
  split <;> omega
theorem Took.len2 {b : Bs} {es : List Ev} {o : Or} {s q : Int} {b' : Bs} {es' : List Ev} (h : Took b es o s q b' es') (v : Vb b) (k : Snd b) (hn : ∀ S, (b.sl S).length ≤ 4096) (hs : s = 1 ∨ s = 2) (q0 : 0 ≤ q) (q1 : q < 4294967296) : es'.length ≤ es.length + 2200000 := by
  rcases h with ⟨_, _, rfl, rfl⟩ | ⟨_, n, hcm⟩
  · rw [List.length_append, List.length_append, List.length_singleton, List.length_singleton]
    omega
  · have hc := cms_len2 (o := o) hs (mes b s q + 1) (b.hgh o.id).told (es ++ [(evA o s q).num (nx b.seq)]) q (v.hgh _).told (k.hgh _).told q0
    have hm : shs ((b.hgh o.id).told.sl (oth s)) ≤ 257 * 4096 := by
      have h1 := shs_le ((b.hgh o.id).told.sl (oth s)) ((k.hgh _).told.ok _)
      have h2 : ((b.hgh o.id).told.sl (oth s)).length ≤ 4096 := hn (oth s)
      omega
    rw [List.length_append, List.length_singleton] at hc
    have hd : (if q = 0 then 0 else 2 * shs ((b.hgh o.id).told.sl (oth s)) + 2) ≤ 2105346 := by split <;> omega
    rcases hcm with ⟨_, rfl, rfl⟩ | ⟨hq, hr, rfl, p', c', blk, _, rfl⟩ | ⟨hq, hr, rfl, rfl⟩
    · omega
    · omega
    · rw [List.length_append, List.length_singleton]
      omega
theorem Did.len2 {b : Bs} {c : Cm} {b' : Bs} {es' : List Ev} (h : Did b c b' es') (g : Gb b) (k : Snd b) (hc : CmOk c) : es'.length ≤ 2200001 := by
  rcases h with ⟨_, rfl, rfl⟩ | ⟨_, _, o, s, kk, i, hf, rfl, rfl⟩ | ⟨h0, k1, ht⟩ | ⟨h0, k3, o, s, kk, i, hf, ht⟩
  · rw [List.length_singleton]; omega
  · rw [List.length_singleton]; omega
  · have e : cmN b c = c := by unfold cmN; rw [if_neg (by omega)]
    rcases rfs_zero h0 with ⟨k', _⟩ | ⟨_, hs, q1, q2⟩ | ⟨k', _⟩
    · omega
    · have := ht.len2 g.vb k (sl_lns g) (by rw [e]; exact hs) (by omega) (by omega)
      rw [List.length_nil] at this
      omega
    · omega
  · rcases rfs_zero h0 with ⟨k', _⟩ | ⟨k', _⟩ | ⟨_, _, q1, q2⟩
    · omega
    · omega
    · have hsd : (cmN b c).sd = s := by unfold cmN; rw [if_pos k3, hf.ff]
      have hn : ∀ S, ((b.del s i).told.sl S).length ≤ 4096 := fun S => by
        have h1 := sl_lns g S
        have h2 := sl_lns g s
        show ((b.del s i).sl S).length ≤ 4096
        unfold Bs.del
        rw [put_sl' _ _ _ _ _ _ hf.side]
        split
        · exact Nat.le_trans (List.length_eraseIdx_le _ _) h2
        · exact h1
      have := ht.len2 (g.vb.del hf.side i).told ((Sbp.del hf.side i).snd k).told hn (by rw [hsd]; exact hf.side) (by omega) (by omega)
      rw [List.length_singleton] at this
      omega
theorem js_do2 {w : World} {B P d : Nat} {b : Bs} {sq : Int} {l1 l2 : List Fd.Lv} {U : World} (c : Cm) (h : Js w B P d b sq l1 l2 U) (hc : CmOk c) :
    Calls Try.prog 10 #[.pointer (some ⟨B, 0, none⟩), .agg (cmr c)] U fun e w' => ∃ b' p q es', e = .returned (.slice p es'.length q) ∧ Js w B P d b' sq l1 l2 w' ∧ Fd.Re w' p q (es'.map fev) ∧ Did b c b' es' ∧ (∀ e ∈ es', TrG e) ∧ es'.length ≤ 2200001 ∧ Kp (fun j => b.fp B j) U w' := by
  refine (do_any B b c U h.pl.bm h.pl.gb.vb hc).mono ?_
  rintro e w' ⟨T, b', ve', es', rfl, htd, hd⟩
  have hev := htd.tn.ev
  obtain ⟨p, q, rfl⟩ := own_form hev
  refine ⟨b', p, q, es', rfl, ⟨⟨h.pl.be.trans (htd.kp.below h.pl.be.size (fun j hj hf => by have := h.pl.nw j hf; omega)), htd.tn.bm, (hd.good h.pl.gb hc).1, fun j hj => ?_⟩, hd.snd h.pl.gb h.sn hc, h.pq.kept htd.kp (fun j c t hj hjc => bm_kinds h.pl.bm hj hjc), h.np⟩, ?_, hd, hd.trg h.pl.gb h.sn hc, hd.len2 h.pl.gb h.sn hc, htd.kp⟩
  · rcases htd.fr j (.inr hj) with e | e
    · exact h.pl.nw j e
    · exact Nat.le_trans h.pl.be.size e
  · have hcells : Fd.evc (es'.map fev) = evs es' := by
      simp only [Fd.evc, evs, List.flatMap_map]
      rfl
    have hcp := Fd.own_cap hev
    refine ⟨fun e => ?_, by rw [List.length_map]; exact hcp.1, hcp.2.1, fun ad e => ?_⟩
    · obtain ⟨h1, h2⟩ := hcp.2.2 e
      exact ⟨by rw [List.eq_nil_of_length_eq_zero h1]; rfl, h2⟩
    · subst e
      rw [hcells]
      exact (Fd.own_cells hev).2
end Go.Proofs.Ytojmcfkbekodpaa
namespace Go.Proofs.Ytojmcfkbekodpaa
open Go.RowKit Go.Deep Go.Shelf
set_option linter.unusedVariables false
set_option linter.unusedSimpArgs false
set_option maxHeartbeats 1000000
set_option maxRecDepth 100000
/-- a picture in memory. -/
structure Pic where
  sq : Int
  p1 : Option Addr
  c1 : Nat
  l1 : List Fd.Lv
  p2 : Option Addr
  c2 : Nat
  l2 : List Fd.Lv
def Pic.cs (x : Pic) : List Value := [.int .u64 x.sq, .slice x.p1 x.l1.length x.c1, .slice x.p2 x.l2.length x.c2]
def pcc (l : List Pic) : List Value := l.flatMap Pic.cs
theorem pcc_app (a b : List Pic) : pcc (a ++ b) = pcc a ++ pcc b := by simp [pcc]
theorem pcc_cons (x : Pic) (l : List Pic) : pcc (x :: l) = x.cs ++ pcc l := by simp [pcc]
theorem pcc_len : ∀ l : List Pic, (pcc l).length = l.length * 3
  | [] => rfl
  | x :: l => by rw [pcc_cons, List.length_append, pcc_len l, List.length_cons]; simp [Pic.cs]; omega
theorem pcc_one (l : List Pic) : ∀ u ∈ pcc l, u.oneCell' = true := by
  intro u hu
  obtain ⟨x, _, h⟩ := List.mem_flatMap.1 hu
  simp only [Pic.cs, List.mem_cons, List.not_mem_nil, or_false] at h
  rcases h with rfl | rfl | rfl <;> rfl
theorem pcc_get : ∀ (l : List Pic) (i : Nat) (h : i < l.length) (j : Nat), j < 3 → (pcc l)[i * 3 + j]? = (l[i].cs)[j]?
  | x :: l, 0, h, j, hj => by
    rw [pcc_cons, List.getElem?_append_left (by simp [Pic.cs]; omega)]
    simp
  | x :: l, i + 1, h, j, hj => by
    rw [pcc_cons, List.getElem?_append_right (by simp [Pic.cs]; omega)]
    have : (i + 1) * 3 + j - x.cs.length = i * 3 + j := by simp [Pic.cs]; omega
    rw [this, pcc_get l i (by simpa using h) j hj]
    simp
theorem infoP3 : (Try.prog.info? 49).map (fun i => (i.zero, i.size, i.bytes)) = some (some (.agg #[.int .u64 0, .slice none 0 0, .slice none 0 0]), 3, 56) := by kernel_rfl
/-- all that was told lies there. -/
structure Sv (lo : Nat) (B P S : Nat) (dq : Option Addr) (dc : Nat) (D : List Fd.Dm) (pq : Option Addr) (pc : Nat) (L : List Pic) (U : World) : Prop where
  row : U.heap[S]? = some (.cells #[.pointer (some ⟨P, 0, none⟩), .pointer (some ⟨B, 0, none⟩), .slice dq D.length dc, .slice pq L.length pc] 61 (0, 0))
  ns : lo ≤ S
  da : Fd.Dw lo U dq dc D
  pi : U.ownsRow lo 49 3 (.slice pq L.length pc) L.length (pcc L)
  ea : ∀ x ∈ L, Fd.Lo 0 U x.p1 x.c1 x.l1 ∧ Fd.Lo 0 U x.p2 x.c2 x.l2
theorem Sv.kept {lo B P S : Nat} {dq : Option Addr} {dc : Nat} {D : List Fd.Dm} {pq : Option Addr} {pc : Nat} {L : List Pic} {U V : World} {F : Nat → Prop} (h : Sv lo B P S dq dc D pq pc L U) (hk : Kp F U V) (hF : ∀ j c t, F j → U.heap[j]? = some (.cells c t (0, 0)) → t ≠ 61 ∧ t ≠ 47 ∧ t ≠ 49 ∧ t ≠ 71) : Sv lo B P S dq dc D pq pc L V := by
  refine ⟨hk.row h.row (fun hf => (hF S _ _ hf h.row).1 rfl), h.ns, h.da.kept hk.fd (fun g hg hf => ?_), ?_, fun x hx => ?_⟩
  · obtain ⟨cur, hc⟩ := h.da.ty hg
    exact (hF g _ _ hf hc).2.1 rfl
  · refine Fd.own_same h.pi (fun g hg => ?_)
    obtain ⟨cur, hc⟩ := Fd.own_ty h.pi hg
    exact hk.obj g (row_lt hc) (fun hf => (hF g _ _ hf hc).2.2.1 rfl)
  · obtain ⟨a, b⟩ := h.ea x hx
    refine ⟨a.kept hk.fd (fun g hg hf => ?_), b.kept hk.fd (fun g hg hf => ?_)⟩
    · obtain ⟨cur, hc⟩ := a.ty hg
      exact (hF g _ _ hf hc).2.2.2 rfl
    · obtain ⟨cur, hc⟩ := b.ty hg
      exact (hF g _ _ hf hc).2.2.2 rfl
theorem Sv.on {lo B P S : Nat} {dq : Option Addr} {dc : Nat} {D : List Fd.Dm} {pq : Option Addr} {pc : Nat} {L : List Pic} {U V : World} (h : Sv lo B P S dq dc D pq pc L U) (hb : Below U.heap.size U V) : Sv lo B P S dq dc D pq pc L V :=
  ⟨row_on h.row hb, h.ns, h.da.on hb, Fd.own_on h.pi hb, fun x hx => ⟨(h.ea x hx).1.on hb, (h.ea x hx).2.on hb⟩⟩
theorem fp_kinds {U : World} {B : Nat} {b : Bs} (h : Bm U B b) {j : Nat} {c : Array Value} {t : TypeId} (hj : b.fp B j) (hc : U.heap[j]? = some (.cells c t (0, 0))) : t ≠ 61 ∧ t ≠ 47 ∧ t ≠ 49 ∧ t ≠ 71 := by
  obtain ⟨c', t', h1, h2⟩ := h.ty hj
  rw [hc] at h1
  injection h1 with h1
  injection h1 with _ h1
  subst h1
  rcases h2 with rfl | rfl | rfl <;> decide
theorem Js.kept {w : World} {B P d : Nat} {b : Bs} {sq : Int} {l1 l2 : List Fd.Lv} {U V : World} {F : Nat → Prop} (h : Js w B P d b sq l1 l2 U) (hk : Kp F U V) (hF : ∀ j, F j → w.heap.size ≤ j ∧ ∃ c t, U.heap[j]? = some (.cells c t (0, 0)) ∧ (t = 61 ∨ t = 47 ∨ t = 49)) : Js w B P d b sq l1 l2 V := by
  refine ⟨⟨h.pl.be.trans (hk.below h.pl.be.size (fun j hj hf => by have := (hF j hf).1; omega)), h.pl.bm.kept hk (fun j hj hf => ?_), h.pl.gb, h.pl.nw⟩, h.sn, h.pq.kept hk (fun j c t hf hc => ?_), h.np⟩
  · obtain ⟨_, c, t, h1, h2⟩ := hF j hf
    have := fp_kinds h.pl.bm hj h1
    rcases h2 with rfl | rfl | rfl
    · exact this.1 rfl
    · exact this.2.1 rfl
    · exact this.2.2.1 rfl
  · obtain ⟨_, c', t', h1, h2⟩ := hF j hf
    rw [hc] at h1
    injection h1 with h1
    injection h1 with _ h1
    subst h1
    rcases h2 with rfl | rfl | rfl <;> decide
theorem kp_grown {U V : World} {r : Option Nat} (hg : U.grownBy V r) : Kp (fun j => r = some j) U V := kp_of ((Fd.Kp.refl _ U).grown hg (fun j h => h))
/-- messages behind the messages. -/
theorem sv_data {w : World} {B P d S : Nat} {b : Bs} {sq : Int} {l1 l2 : List Fd.Lv} {dq : Option Addr} {dc : Nat} {D : List Fd.Dm} {pq : Option Addr} {pc : Nat} {L : List Pic} {U V : World} {q' : Option Addr} {c' k : Nat} {Z : List Fd.Dm} (j : Js w B P d b sq l1 l2 U) (h : Sv w.heap.size B P S dq dc D pq pc L U) (hg : U.grownBy V (Value.slice dq D.length dc).ownBlock) (ho : V.ownsRow w.heap.size 47 6 (.slice q' k c') k (Fd.dvc Z)) (hk : Z.length = k) :
    Js w B P d b sq l1 l2 (V.setCell ⟨S, 2, none⟩ (.slice q' k c')) ∧ Sv w.heap.size B P S q' c' Z pq pc L (V.setCell ⟨S, 2, none⟩ (.slice q' k c')) := by
  subst hk
  have k1 := kp_grown hg
  have hlo : ∀ g, (Value.slice dq D.length dc).ownBlock = some g → w.heap.size ≤ g ∧ ∃ c t, U.heap[g]? = some (.cells c t (0, 0)) ∧ (t = 61 ∨ t = 47 ∨ t = 49) := fun g hgb => by
    obtain ⟨cur, hc⟩ := Fd.own_ty h.da hgb
    exact ⟨Fd.own_geP h.da (Fd.own_blk h.da hgb), cur, 47, hc, .inr (.inl rfl)⟩
  have j1 := j.kept k1 hlo
  have hrow : V.heap[S]? = some (.cells #[.pointer (some ⟨P, 0, none⟩), .pointer (some ⟨B, 0, none⟩), .slice dq D.length dc, .slice pq L.length pc] 61 (0, 0)) := k1.row h.row (fun hf => by
    obtain ⟨cur, hc⟩ := Fd.own_ty h.da hf
    rw [h.row] at hc
    cases hc)
  have hpi : V.ownsRow w.heap.size 49 3 (.slice pq L.length pc) L.length (pcc L) := Fd.own_same h.pi (fun g hgb => by
    obtain ⟨cur, hc⟩ := Fd.own_ty h.pi hgb
    refine k1.obj g (row_lt hc) (fun hf => ?_)
    obtain ⟨cur', hc'⟩ := Fd.own_ty h.da hf
    rw [hc] at hc'
    cases hc')
  have hea : ∀ x ∈ L, Fd.Lo 0 V x.p1 x.c1 x.l1 ∧ Fd.Lo 0 V x.p2 x.c2 x.l2 := fun x hx => by
    obtain ⟨a, b⟩ := h.ea x hx
    refine ⟨a.kept k1.fd (fun g hg hf => ?_), b.kept k1.fd (fun g hg hf => ?_)⟩
    · obtain ⟨cur, hc⟩ := a.ty hg
      obtain ⟨cur', hc'⟩ := Fd.own_ty h.da hf
      rw [hc] at hc'
      cases hc'
    · obtain ⟨cur, hc⟩ := b.ty hg
      obtain ⟨cur', hc'⟩ := Fd.own_ty h.da hf
      rw [hc] at hc'
      cases hc'
  have k2 := Kp.set V S 2 (.slice q' Z.length c')
  refine ⟨j1.kept k2 (fun g hgS => by subst hgS; exact ⟨h.ns, _, _, hrow, .inl rfl⟩), ?_⟩
  refine ⟨Fd.set_row _ hrow, h.ns, ?_, ?_, fun x hx => ?_⟩
  · exact Fd.own_ne ho hrow (by decide) (fun g hg => heap_setCell_other _ _ _ _ hg)
  · exact Fd.own_ne hpi hrow (by decide) (fun g hg => heap_setCell_other _ _ _ _ hg)
  · obtain ⟨a, b⟩ := hea x hx
    exact ⟨Fd.own_ne a hrow (by decide) (fun g hg => heap_setCell_other _ _ _ _ hg), Fd.own_ne b hrow (by decide) (fun g hg => heap_setCell_other _ _ _ _ hg)⟩
/-- a picture behind the pictures. -/
theorem sv_pic {w : World} {B P d S : Nat} {b : Bs} {sq : Int} {l1 l2 : List Fd.Lv} {dq : Option Addr} {dc : Nat} {D : List Fd.Dm} {pq : Option Addr} {pc : Nat} {L : List Pic} {U V : World} {q' : Option Addr} {c' k : Nat} {x : Pic} (j : Js w B P d b sq l1 l2 U) (h : Sv w.heap.size B P S dq dc D pq pc L U) (hx1 : Fd.Lo 0 U x.p1 x.c1 x.l1) (hx2 : Fd.Lo 0 U x.p2 x.c2 x.l2) (hg : U.grownBy V (Value.slice pq L.length pc).ownBlock) (ho : V.ownsRow w.heap.size 49 3 (.slice q' k c') k (pcc (L ++ [x]))) (hk : L.length + 1 = k) :
    Js w B P d b sq l1 l2 (V.setCell ⟨S, 3, none⟩ (.slice q' k c')) ∧ Sv w.heap.size B P S dq dc D q' c' (L ++ [x]) (V.setCell ⟨S, 3, none⟩ (.slice q' k c')) := by
  have hk' : (L ++ [x]).length = k := by simp; exact hk
  subst hk'
  have k1 := kp_grown hg
  have hlo : ∀ g, (Value.slice pq L.length pc).ownBlock = some g → w.heap.size ≤ g ∧ ∃ c t, U.heap[g]? = some (.cells c t (0, 0)) ∧ (t = 61 ∨ t = 47 ∨ t = 49) := fun g hgb => by
    obtain ⟨cur, hc⟩ := Fd.own_ty h.pi hgb
    exact ⟨Fd.own_geP h.pi (Fd.own_blk h.pi hgb), cur, 49, hc, .inr (.inr rfl)⟩
  have j1 := j.kept k1 hlo
  have hrow : V.heap[S]? = some (.cells #[.pointer (some ⟨P, 0, none⟩), .pointer (some ⟨B, 0, none⟩), .slice dq D.length dc, .slice pq L.length pc] 61 (0, 0)) := k1.row h.row (fun hf => by
    obtain ⟨cur, hc⟩ := Fd.own_ty h.pi hf
    rw [h.row] at hc
    cases hc)
  have hda : Fd.Dw w.heap.size V dq dc D := h.da.kept k1.fd (fun g hg hf => by
    obtain ⟨cur, hc⟩ := h.da.ty hg
    obtain ⟨cur', hc'⟩ := Fd.own_ty h.pi hf
    rw [hc] at hc'
    cases hc')
  have keep : ∀ {p c l}, Fd.Lo 0 U p c l → Fd.Lo 0 V p c l := fun a => a.kept k1.fd (fun g hg hf => by
    obtain ⟨cur, hc⟩ := a.ty hg
    obtain ⟨cur', hc'⟩ := Fd.own_ty h.pi hf
    rw [hc] at hc'
    cases hc')
  have k2 := Kp.set V S 3 (.slice q' (L ++ [x]).length c')
  refine ⟨j1.kept k2 (fun g hgS => by subst hgS; exact ⟨h.ns, _, _, hrow, .inl rfl⟩), ?_⟩
  have back : ∀ {p c l}, Fd.Lo 0 V p c l → Fd.Lo 0 (V.setCell ⟨S, 3, none⟩ (.slice q' (L ++ [x]).length c')) p c l := fun a => Fd.own_ne a hrow (by decide) (fun g hg => heap_setCell_other _ _ _ _ hg)
  refine ⟨Fd.set_row _ hrow, h.ns, ?_, ?_, fun y hy => ?_⟩
  · exact Fd.own_ne hda hrow (by decide) (fun g hg => heap_setCell_other _ _ _ _ hg)
  · exact Fd.own_ne ho hrow (by decide) (fun g hg => heap_setCell_other _ _ _ _ hg)
  · rcases List.mem_append.1 hy with hy | hy
    · exact ⟨back (keep (h.ea y hy).1), back (keep (h.ea y hy).2)⟩
    · rw [List.mem_singleton] at hy
      subst hy
      exact ⟨back (keep hx1), back (keep hx2)⟩
/-- one picture is put behind one's own, in a region that draws its order. -/
theorem step_pic {w : World} {ops : Array Oper} {oo : Oper} {a : Act} {K : Act → World → Prop} {Q : Exit → Act → World → Prop} {E : Prop} (hgd : oo.guard = none) (s x : Operand)
    (ho : oo.op = .call { callee := .builtin .append, args := #[s, x], argTypes := #[59, 59] }) (base : Nat) (v : Value) (n : Nat) (ys : List Pic) (hs : a.eval s = v) (h1 : w.ownsRow base 49 3 v n (pcc ys))
    (g : Nat) (y : Pic) (hx : a.eval x = .slice (some ⟨g, 0, none⟩) 1 1) (hc : w.heap[g]? = some (.cells #[.int .u64 y.sq, .slice y.p1 y.l1.length y.c1, .slice y.p2 y.l2.length y.c2] 49 (0, 0))) (h63 : n + 1 ≤ 2097152) (hbase : base ≤ w.heap.size)
    (h : ∀ p' c' w', Hid (w'.ownsRow base 49 3 (.slice p' (n + 1) c') (n + 1) (pcc (ys ++ [y]))) → Hid (w.grownBy w' v.ownBlock) → K (a.put oo.dst (.slice p' (n + 1) c')) w') : if Region.wanted oo (yielded ops a.tmps) = true then Oper.wp Try.prog oo a w K Q else E := by
  have hw : Region.wanted oo (yielded ops a.tmps) = true := by simp [Region.wanted, hgd]
  rw [if_pos hw]
  obtain ⟨i0, hi, hz0, hz1, hz2⟩ := Fd.info_parts infoP3
  refine wp_append_own w s x 59 ho base 49 i0 _ 3 56 Try.underlying59 hi hz0 hz1 hz2 rfl (by decide) v n (pcc ys) hs h1 ⟨g, 0, none⟩ 1 1 (pcc [y]) hx (by rw [pcc_len]; rfl) (fun j u hj => ?_) (pcc_one _) (by unfold maxLen; omega) (by omega) hbase (fun v' w' h2 h3 _ => ?_)
  · rw [Addr.add_lit, Nat.zero_add, row_cell hc]
    simp only [pcc_cons, Pic.cs] at hj
    simpa [pcc] using hj
  · obtain ⟨p', c', rfl⟩ := Fd.own_form h2
    exact h p' c' w' (hid (by rw [pcc_app]; exact h2)) (hid h3)
end Go.Proofs.Ytojmcfkbekodpaa
namespace Go.Proofs.Ytojmcfkbekodpaa
open Go.RowKit Go.Deep Go.Shelf
set_option linter.unusedVariables false
set_option linter.unusedSimpArgs false
set_option maxHeartbeats 1000000
set_option maxRecDepth 100000
def Pic.pl (x : Pic) : Int × List Fd.Lv × List Fd.Lv := (x.sq, x.l1, x.l2)
/-- a play: commands, the book behind them, the messages, the pictures. -/
inductive Ply (cap meet : Int) (d : Nat) : List Cm → Bs → List Fd.Dm → List (Int × List Fd.Lv × List Fd.Lv) → Prop
  | nil {b : Bs} : Fr b cap meet → Ply cap meet d [] b [] [(0, [], [])]
  | snoc {cs : List Cm} {b : Bs} {D : List Fd.Dm} {L : List (Int × List Fd.Lv × List Fd.Lv)} {c : Cm} {b' : Bs} {es : List Ev} : Ply cap meet d cs b D L → CmOk c → Gb b → Snd b → Did b c b' es →
      Ply cap meet d (cs ++ [c]) b' (D ++ Fd.nmb D.length (tdl (bl b 1 d) (bl b 2 d) b' d (es.map fev))) (L ++ [(((D.length + (tdl (bl b 1 d) (bl b 2 d) b' d (es.map fev)).length : Nat) : Int), bl b' 1 d, bl b' 2 d)])
theorem fr_bl {b : Bs} {cap meet : Int} (h : Fr b cap meet) (s : Int) (d : Nat) : bl b s d = [] := by
  have hsl : b.sl s = [] := by unfold Bs.sl; split; exact h.l1; exact h.l2
  unfold bl
  rw [hsl, dpl_none]
  rfl
theorem take_snoc {l : List Cm} {i : Nat} (h : i < l.length) : l.take i ++ [l[i]] = l.take (i + 1) := List.take_append_getElem h
end Go.Proofs.Ytojmcfkbekodpaa
