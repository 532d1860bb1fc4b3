/-
  Nothing of a quantity is lost: the lives of a book, plainly.
-/
import Derived.Test.YtalgndgoedlpoaaRuQb
namespace Go.Proofs.Ytalgndgoedlpoaa
open Go.RowKit Go.Deep Go.Shelf
set_option linter.unusedVariables false
set_option linter.unusedSimpArgs false
theorem fnd_get {id : Int} : ∀ {l : LO} {i : Nat}, fnd id l = (i : Int) → ∃ h : i < l.length, (l[i]).2.id = id
  | [], i, h => by unfold fnd at h; omega
  | x :: l, i, h => by
    unfold fnd at h
    split at h
    · rename_i e
      obtain rfl : i = 0 := by omega
      exact ⟨by simp, e⟩
    · split at h
      · omega
      · obtain ⟨j, rfl⟩ : ∃ j, i = j + 1 := by
          have := (fnd_ge id l).1
          exact ⟨i - 1, by omega⟩
        obtain ⟨h1, h2⟩ := fnd_get (id := id) (l := l) (i := j) (by omega)
        exact ⟨by simpa using h1, by simpa using h2⟩
theorem rmL_at {id : Int} : ∀ {l : LO} {i : Nat}, (l.map (·.2.id)).Nodup → (h : i < l.length) → (l[i]).2.id = id → rmL id l = (l[i]).2.vi + (l[i]).2.hi
  | x :: l, 0, hn, h, e => by
    have e' : x.2.id = id := e
    simp only [List.map_cons, List.nodup_cons] at hn
    unfold rmL
    rw [if_pos e', rmL_none (fun y hy c => hn.1 (by rw [e', ← c]; exact List.mem_map.2 ⟨y, hy, rfl⟩))]
    simp
  | x :: l, i + 1, hn, h, e => by
    simp only [List.map_cons, List.nodup_cons] at hn
    have hi : i < l.length := by simpa using h
    have e' : (l[i]).2.id = id := by simpa using e
    unfold rmL
    rw [if_neg (fun c => hn.1 (by rw [c, ← e']; exact List.mem_map.2 ⟨l[i], List.getElem_mem hi, rfl⟩)), rmL_at hn.2 hi e']
    simp
theorem fnd_neg {id : Int} {l : LO} (h : ¬ 0 ≤ fnd id l) : ∀ x ∈ l, x.2.id ≠ id := fun x hx e => h (fnd_mem hx e)
theorem rm_fo {b : Bs} (hi : Ids b) (id : Int) : rm b id = (fo b id).1.vi + (fo b id).1.hi := by
  unfold Ids at hi
  rw [List.map_append, List.nodup_append] at hi
  unfold fo rm
  by_cases h1 : 0 ≤ fnd id b.l1
  · rw [dif_pos h1]
    obtain ⟨i, e⟩ : ∃ i : Nat, fnd id b.l1 = (i : Int) := ⟨(fnd id b.l1).toNat, by omega⟩
    obtain ⟨hl, hid⟩ := fnd_get e
    have h2 : rmL id b.l2 = 0 := rmL_none (fun y hy c => hi.2.2 _ (List.mem_map.2 ⟨b.l1[i], List.getElem_mem hl, rfl⟩) _ (List.mem_map.2 ⟨y, hy, rfl⟩) (hid.trans c.symm))
    have e3 : (fnd id b.l1).toNat = i := by omega
    simp only [e3]
    rw [h2, rmL_at hi.1 hl hid]
    omega
  · rw [dif_neg h1]
    by_cases h2 : 0 ≤ fnd id b.l2
    · rw [dif_pos h2]
      obtain ⟨i, e⟩ : ∃ i : Nat, fnd id b.l2 = (i : Int) := ⟨(fnd id b.l2).toNat, by omega⟩
      obtain ⟨hl, hid⟩ := fnd_get e
      have h3 : rmL id b.l1 = 0 := rmL_none (fnd_neg h1)
      have e3 : (fnd id b.l2).toNat = i := by omega
      simp only [e3]
      rw [h3, rmL_at hi.2.1 hl hid]
      omega
    · rw [dif_neg h2, rmL_none (fnd_neg h1), rmL_none (fnd_neg h2)]
      rfl
theorem Fd.at' {b : Bs} {id : Int} {o : Or} {s : Int} {k i : Nat} (h : Fd b id o s k i) : ∃ hl : i < (b.sl s).length, ((b.sl s)[i]).2 = o ∧ o.id = id := by
  obtain ⟨hl, hid⟩ := fnd_get h.fi
  refine ⟨hl, ?_⟩
  have hff := h.ff
  have hfi := h.fi
  unfold fo at hff
  have key : ((b.sl s)[i]).2 = o := by
    by_cases h1 : 0 ≤ fnd id b.l1
    · rw [dif_pos h1] at hff
      injection hff with e1 e2
      injection e2 with e2 _
      subst e2
      have e3 : (fnd id b.l1).toNat = i := by have : fnd id b.l1 = (i : Int) := hfi; omega
      simp only [e3] at e1
      exact e1
    · rw [dif_neg h1] at hff
      by_cases h2 : 0 ≤ fnd id b.l2
      · rw [dif_pos h2] at hff
        injection hff with e1 e2
        injection e2 with e2 _
        subst e2
        have e3 : (fnd id b.l2).toNat = i := by have : fnd id b.l2 = (i : Int) := hfi; omega
        simp only [e3] at e1
        exact e1
      · rw [dif_neg h2] at hff
        injection hff with _ e2
        injection e2 with _ e2
        cases e2
  exact ⟨key, by rw [← key]; exact hid⟩
theorem del_ct {b : Bs} {id : Int} {o : Or} {s : Int} {k i : Nat} {L : List Lf} {n r : Int} (h : Fd b id o s k i) (v : Vb b) (g : Lg b L) : ∃ L', Ct L [(evC id (o.vi + o.hi) r).num n] L' ∧ Lg (b.del s i).told L' ∧ L'.length = L.length := by
  obtain ⟨hl, e1, e2⟩ := h.at'
  have hs := h.side
  have hmem : (b.sl s)[i] ∈ b.sl s := List.getElem_mem hl
  have hok := v.ok s _ hmem
  have hge := rm_ge v hmem
  rw [e1] at hok hge
  have hm := g.mem s _ hmem
  rw [e1, e2] at hm
  unfold OrOk at hok
  obtain ⟨L1, g1, g2, g3⟩ := g.qv.cancel (e := (evC id (o.vi + o.hi) r).num n) rfl hm (by show 0 < o.vi + o.hi; omega) (by show o.vi + o.hi ≤ rm b id; rw [← e2]; exact hge)
  have hlen : L1.length = L.length := by simpa using congrArg List.length g3
  refine ⟨L1, g1, ⟨g2.congr (fun j => ?_), fun S y hy => ?_, fun x hx => ?_⟩, hlen⟩
  · show rm (b.del s i) j = mns (rm b) id (o.vi + o.hi) j
    unfold Bs.del
    rw [rm_put hs, rmL_erase hl, e1, e2]
    simp only [mns]
    by_cases c : id = j
    · rw [if_pos c, if_pos c.symm]; omega
    · rw [if_neg c, if_neg (Ne.symm c)]; omega
  · rw [g3]
    obtain ⟨z, hz, e'⟩ := (Sb.del (b := b) hs i).sub S y hy
    rw [← e']
    exact g.mem S z hz
  · show x.id ≤ (b.del s i).high
    unfold Bs.del
    rw [put_high]
    have h1 : x.id ∈ L1.map (·.id) := List.mem_map.2 ⟨x, hx, rfl⟩
    rw [g3] at h1
    obtain ⟨z, hz, e'⟩ := List.mem_map.1 h1
    rw [← e']
    exact g.top z hz
theorem did_ct {b : Bs} {c : Cm} {b' : Bs} {es : List Ev} {L : List Lf} (h : Did b c b' es) (g : Gb b) (k : Lg b L) : ∃ L', Ct L es L' ∧ Lg b' L' ∧ L'.length ≤ L.length + 1 := by
  rcases h with ⟨n, rfl, rfl⟩ | ⟨_, k2, o, s, kk, i, hf, rfl, rfl⟩ | ⟨h0, k1, ht⟩ | ⟨h0, k3, o, s, kk, i, hf, ht⟩
  · exact ⟨L, .inr (.inr (.inr ⟨.inl rfl, rfl⟩)), ⟨k.qv, k.mem, k.top⟩, by omega⟩
  · obtain ⟨L', h1, h2, h3⟩ := del_ct (n := nx b.seq) (r := 1) hf g.vb k
    exact ⟨L', h1, h2, by omega⟩
  · have e : cmN b c = c := by unfold cmN; rw [if_neg (by omega)]
    rw [e] at ht
    obtain ⟨n1, _⟩ := rfs_new h0 (by omega)
    rcases rfs_zero h0 with ⟨x, _⟩ | ⟨_, hs, q1, q2⟩ | ⟨x, _⟩
    · omega
    · obtain ⟨t, L', rfl, h1, h2, h3⟩ := took_ct hs ht g.vb k n1 (by omega) (by omega)
      exact ⟨L', h1, h2, by omega⟩
    · omega
  · obtain ⟨n1, _⟩ := rfs_new h0 (by omega)
    have hsd : (cmN b c).sd = s := by unfold cmN; rw [if_pos k3, hf.ff]
    rw [hsd] at ht
    have hcid : (ord (cmN b c)).id = c.id := by unfold cmN; rw [if_pos k3]; rfl
    obtain ⟨L1, h1, h2, h3⟩ := del_ct (n := nx b.seq) (r := 2) hf g.vb k
    have hhigh : (b.del s i).told.high = b.high := by
      show (b.del s i).high = b.high
      unfold Bs.del
      rw [put_high]
    rcases rfs_zero h0 with ⟨x, _⟩ | ⟨x, _⟩ | ⟨_, _, q1, q2⟩
    · omega
    · omega
    · obtain ⟨t, L', rfl, g1, g2, g3⟩ := took_ct hf.side ht (g.vb.del hf.side i).told h2 (by rw [hhigh, hcid]; exact n1) (by omega) (by omega)
      exact ⟨L', ct_app h1 g1, g2, by omega⟩
/-- how many lives still rest. -/
def cn (b : Bs) (L : List Lf) : Nat := (L.filter fun x => (fo b x.id).2.2).length
theorem cn_snoc (b : Bs) (L : List Lf) (x : Lf) : cn b (L ++ [x]) = cn b L + if (fo b x.id).2.2 = true then 1 else 0 := by
  unfold cn
  rw [List.filter_append, List.length_append]
  congr 1
  simp only [List.filter_cons, List.filter_nil]
  split <;> rfl
theorem cn_all {b : Bs} {L : List Lf} (g : Lg b L) (hi : Ids b) : cn b L = lns b := by
  have hp : ((L.filter fun x => (fo b x.id).2.2).map (·.id)).Perm ((b.l1 ++ b.l2).map (·.2.id)) := by
    refine (List.perm_ext_iff_of_nodup ?_ hi).2 ?_
    · exact g.qv.nd.sublist (List.Sublist.map _ List.filter_sublist)
    · intro i
      constructor
      · intro h
        obtain ⟨x, hx, rfl⟩ := List.mem_map.1 h
        have h2 := (List.mem_filter.1 hx).2
        apply Decidable.byContradiction
        intro hn
        have := fo_none (b := b) (id := x.id) (fun S y hy e => hn (List.mem_map.2 ⟨y, by unfold Bs.sl at hy; split at hy; exact List.mem_append_left _ hy; exact List.mem_append_right _ hy, e⟩))
        rw [this] at h2
        cases h2
      · intro h
        obtain ⟨y, hy, rfl⟩ := List.mem_map.1 h
        have hS : ∃ S, (S = 1 ∨ S = 2) ∧ y ∈ b.sl S := by
          rcases List.mem_append.1 hy with hy | hy
          · exact ⟨1, .inl rfl, hy⟩
          · exact ⟨2, .inr rfl, hy⟩
        obtain ⟨S, hS, hy⟩ := hS
        obtain ⟨x, hx, e⟩ := List.mem_map.1 (g.mem S y hy)
        refine List.mem_map.2 ⟨x, List.mem_filter.2 ⟨hx, ?_⟩, e⟩
        rw [e]
        exact fo_some hS hy rfl
  have := hp.length_eq
  simpa [cn, lns] using this
end Go.Proofs.Ytalgndgoedlpoaa
