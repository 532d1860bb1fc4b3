/-
  IndexMap: what stands between two steps.
-/
import Derived.Test.YthidnipmkffilaaArgsS
import Derived.Test.YthidnipmkffilaaIxP
import Derived.Test.YthidnipmkffilaaIxK
import Derived.Test.YthidnipmkffilaaIxL
namespace Go.Proofs.Ythidnipmkffilaa
open Go.RowKit Go.Deep
set_option linter.unusedVariables false
set_option linter.unusedSimpArgs false
structure Bm (w : World) (X P n room : Nat) (nv : Value) (L : List (Int × Int)) (wr : World) : Prop where
  ex : ∃ T, Lx wr X P n room T ∧ Ix.Tidy n (hm n) T ∧ (∀ k v, Ix.Has n T k v ↔ (k, v) ∈ L) ∧ L.length = Ix.cnt T n
  ow : OwK w.heap.size wr nv L
  nd : (L.map Prod.fst).Nodup
  bel : Below w.heap.size w wr
  ltX : w.heap.size ≤ X
  ltP : w.heap.size ≤ P
theorem Lx.not51 {w : World} {X P n room : Nat} {T : Ix.Tab} (h : Lx w X P n room T) {g : Nat} {c : Array Value} (hg : w.heap[g]? = some (Obj.cells c 51 (0, 0))) : ¬ (g = X ∨ g = P) := by
  rintro (rfl | rfl)
  · rw [h.row] at hg; simp at hg
  · obtain ⟨cs, h1, _⟩ := h.pl; rw [h1] at hg; simp at hg
theorem Bm.put {w : World} {X P n room : Nat} {nv : Value} {L L' : List (Int × Int)} {wr wq : World} (h : Bm w X P n room nv L wr) {nv' : Value} {T : Ix.Tab} (hL : Lx wq X P n room T) (ht : Ix.Tidy n (hm n) T) (hk : Kp (fun b => b = X ∨ b = P) wr wq) (hh : ∀ k v, Ix.Has n T k v ↔ (k, v) ∈ L') (hc : L'.length = Ix.cnt T n) (ho : OwK w.heap.size wq nv' L') (hd : (L'.map Prod.fst).Nodup) : Bm w X P n room nv' L' wq :=
  ⟨⟨T, hL, ht, hh, hc⟩, ho, hd, h.bel.trans (hk.below h.bel.size (fun g hg => by have := h.ltX; have := h.ltP; omega)), h.ltX, h.ltP⟩
theorem Bm.owp {w : World} {X P n room : Nat} {nv : Value} {L : List (Int × Int)} {wr wq : World} (h : Bm w X P n room nv L wr) (hk : Kp (fun b => b = X ∨ b = P) wr wq) : OwK w.heap.size wq nv L := by
  obtain ⟨T, hL, _⟩ := h.ex
  exact h.ow.same (fun g c hg => hk.obj g (row_lt hg) (hL.not51 hg))
theorem Bm.step {w : World} {X P n room : Nat} {nv : Value} {L : List (Int × Int)} {wr wq : World} (h : Bm w X P n room nv L wr) (hk : Kp (fun _ => False) wr wq) : Bm w X P n room nv L wq := by
  obtain ⟨T, hL, ht, hh, hc⟩ := h.ex
  have hk' : Kp (fun b => b = X ∨ b = P) wr wq := hk.mono (fun _ _ h => h.elim)
  exact h.put (hL.kp hk (fun h => h) (fun h => h)) ht hk' hh hc (h.owp hk') h.nd
theorem Bm.len {w : World} {X P n room : Nat} {nv : Value} {L : List (Int × Int)} {wr : World} (h : Bm w X P n room nv L wr) : L.length ≤ room ∧ L.length ≤ 131072 := by
  obtain ⟨T, hL, ht, hh, hc⟩ := h.ex
  have := hL.le; have := hL.two; have := hL.most; omega
/-- where a key first stands in a list. -/
def fi (L : List (Int × Int)) (k : Int) : Nat := L.findIdx (fun x => x.1 == k)
theorem fi_le (L : List (Int × Int)) (k : Int) : fi L k ≤ L.length := List.findIdx_le_length
theorem fi_before {L : List (Int × Int)} {k : Int} {j : Nat} (h : j < fi L k) (hj : j < L.length) : L[j].1 ≠ k := by
  have := List.not_of_lt_findIdx h
  simpa using this
theorem fi_at {L : List (Int × Int)} {k : Int} (h : fi L k < L.length) : L[fi L k].1 = k := by
  have : (L[fi L k].1 == k) = true := List.findIdx_getElem (w := h)
  simpa using this
theorem fi_mem {L : List (Int × Int)} {k v : Int} (h : (k, v) ∈ L) : fi L k < L.length := List.findIdx_lt_length_of_exists ⟨(k, v), h, by simp⟩
theorem nd_val {L : List (Int × Int)} (h : (L.map Prod.fst).Nodup) {k v : Int} (hm : (k, v) ∈ L) : L[fi L k]'(fi_mem hm) = (k, v) := by
  obtain ⟨i, hi, e⟩ := List.getElem_of_mem hm
  have hf := fi_mem hm
  have h1 := fi_at hf
  have h2 : (L.map Prod.fst)[fi L k]'(by simpa using hf) = (L.map Prod.fst)[i]'(by simpa using hi) := by simp [h1, e]
  have h3 : fi L k = i := (List.getElem_inj h).1 h2
  simp only [h3, e]
theorem nd_drop {L : List (Int × Int)} (h : (L.map Prod.fst).Nodup) (j : Nat) (hj : j < L.length) (k v : Int) : (k, v) ∈ L.take j ++ L.drop (j + 1) ↔ k ≠ L[j].1 ∧ (k, v) ∈ L := by
  have hs : L = L.take j ++ L[j] :: L.drop (j + 1) := by simp
  constructor
  · intro hm
    have hin : (k, v) ∈ L := by
      rcases List.mem_append.1 hm with h1 | h1
      · exact List.mem_of_mem_take h1
      · exact List.mem_of_mem_drop h1
    refine ⟨?_, hin⟩
    intro hk
    rw [hs] at h
    rw [List.map_append, List.map_cons, List.nodup_append] at h
    obtain ⟨h1, h2, h3⟩ := h
    rw [List.nodup_cons] at h2
    rcases List.mem_append.1 hm with h4 | h4
    · exact h3 k (List.mem_map.2 ⟨_, h4, rfl⟩) _ (List.mem_cons_self ..) hk
    · exact h2.1 (List.mem_map.2 ⟨_, h4, hk⟩)
  · rintro ⟨hk, hm⟩
    rw [hs] at hm
    rcases List.mem_append.1 hm with h1 | h1
    · exact List.mem_append_left _ h1
    · rcases List.mem_cons.1 h1 with h2 | h2
      · exact absurd (by rw [← h2]) hk
      · exact List.mem_append_right _ h2
theorem nd_drop_nd {L : List (Int × Int)} (h : (L.map Prod.fst).Nodup) (j : Nat) : ((L.take j ++ L.drop (j + 1)).map Prod.fst).Nodup := by
  refine List.Nodup.sublist ?_ h
  refine List.Sublist.map _ ?_
  have : L.take j ++ L.drop j = L := List.take_append_drop j L
  conv => rhs; rw [← this]
  refine List.Sublist.append (List.Sublist.refl _) ?_
  rw [← List.tail_drop]; exact List.tail_sublist _
theorem fi_none {L : List (Int × Int)} {k : Int} (h : ¬ fi L k < L.length) : ∀ v, (k, v) ∉ L := fun v hm => h (fi_mem hm)
theorem Bm.start {w wr : World} {X P n room : Nat} (h : Lx wr X P n room Ix.nil) (hX : w.heap.size ≤ X) (hP : w.heap.size ≤ P) (hB : Below w.heap.size w wr) : Bm w X P n room (.slice none 0 0) [] wr :=
  ⟨⟨_, h, Ix.tidy_nil _ _, fun k v => ⟨fun h => absurd h (Ix.has_nil _ _ _), fun h => by simp at h⟩, (Ix.cnt_nil _).symm⟩, OwK.nil _ _, List.nodup_nil, hB, hX, hP⟩
theorem OwK.low {base base' : Nat} {w : World} {v : Value} {l : List (Int × Int)} (h : OwK base w v l) (hb : base' ≤ base) : OwK base' w v l :=
  ⟨h.1, h.2.imp id fun ⟨g, cap, cur, e1, e2, r⟩ => ⟨g, cap, cur, e1, Nat.le_trans hb e2, r⟩⟩
/-- a key was dropped, and is taken out of the list. -/
theorem Bm.dropped {w : World} {X P n room : Nat} {nv : Value} {L : List (Int × Int)} {wr w2 : World} (h : Bm w X P n room nv L wr) {T T' : Ix.Tab} {y : Int} (hL : Lx w2 X P n room T') (ht : Ix.Tidy n (hm n) T') (hk : Kp (fun b => b = X ∨ b = P) wr w2) (hh : ∀ k v, Ix.Has n T k v ↔ (k, v) ∈ L) (hcn : L.length = Ix.cnt T n) (hh' : ∀ k' v', Ix.Has n T' k' v' ↔ k' ≠ y ∧ Ix.Has n T k' v') (hcn' : Ix.cnt T' n + 1 = Ix.cnt T n) {j : Nat} (hj : j < L.length) (hy : L[j].1 = y) :
    ∀ w5 v', Below w2.heap.size w2 w5 → OwK w2.heap.size w5 v' (L.take j ++ L.drop (j + 1)) → Bm w X P n room v' (L.take j ++ L.drop (j + 1)) w5 := by
  intro w5 v' hb ho
  have h1 := h.bel.size
  have h2 := hk.size
  refine h.put (hL.kp (Kp.ofBelow (fun _ => False) hb) (fun h => h) (fun h => h)) ht (hk.trans (Kp.ofBelow _ hb)) (fun k' v' => ?_) ?_ (ho.low (by omega)) (nd_drop_nd h.nd j)
  · rw [hh' k' v', hh k' v', nd_drop h.nd j hj, hy]
  · rw [List.length_append, List.length_take, List.length_drop]; omega
/-- a key was put, and is laid behind the list. -/
theorem Bm.laid {w : World} {X P n room : Nat} {nv : Value} {L : List (Int × Int)} {wr w2 : World} (h : Bm w X P n room nv L wr) {T T' : Ix.Tab} {y z : Int} (hL : Lx w2 X P n room T') (ht : Ix.Tidy n (hm n) T') (hk : Kp (fun b => b = X ∨ b = P) wr w2) (hh : ∀ k v, Ix.Has n T k v ↔ (k, v) ∈ L) (hcn : L.length = Ix.cnt T n) (hh' : ∀ k' v', Ix.Has n T' k' v' ↔ (k' = y ∧ v' = z) ∨ Ix.Has n T k' v') (hcn' : Ix.cnt T' n = Ix.cnt T n + 1) (hno : ∀ u, ¬ Ix.Has n T y u) :
    ∀ w3 w5 v', Below w2.heap.size w2 w3 → Ap w.heap.size nv w3 w5 → OwK w.heap.size w5 v' (L ++ [(y, z)]) → Bm w X P n room v' (L ++ [(y, z)]) w5 := by
  intro w3 w5 v' hb ha ho
  have how3 : OwK w.heap.size w3 nv L := (h.owp hk).same (fun g c hg => hb.block g (row_lt hg))
  have hL3 := hL.kp (Kp.ofBelow (fun _ => False) hb) (fun h => h) (fun h => h)
  have hkp : Kp (fun b => nv.ownBlock = some b) w3 w5 := ⟨ha.1.os, ha.1.tape, ha.1.output, ha.2.1, fun b hb hn => ha.2.2 b hb hn⟩
  have hnot : ∀ g, nv.ownBlock = some g → ∃ c, w3.heap[g]? = some (Obj.cells c 51 (0, 0)) := by
    intro g hg
    rcases how3.2 with ⟨rfl, _⟩ | ⟨g', cap, cur, rfl, _, hg', _⟩
    · simp [Value.ownBlock] at hg
    · simp [Value.ownBlock] at hg; subst hg; exact ⟨cur, hg'⟩
  have hL5 : Lx w5 X P n room T' := hL3.kp hkp (fun e => by obtain ⟨c, hc⟩ := hnot X e; exact hL3.not51 hc (.inl rfl)) (fun e => by obtain ⟨c, hc⟩ := hnot P e; exact hL3.not51 hc (.inr rfl))
  have b3 : Below w.heap.size w w3 := (h.bel.trans (hk.below h.bel.size (fun g hg => by have := h.ltX; have := h.ltP; omega))).trans (hb.mono (Nat.le_trans h.bel.size hk.size))
  refine ⟨⟨T', hL5, ht, fun k' v' => ?_, ?_⟩, ho, ?_, b3.trans ha.1, h.ltX, h.ltP⟩
  · rw [hh' k' v', hh k' v', List.mem_append, List.mem_singleton, Prod.mk.injEq]; exact Or.comm
  · rw [List.length_append, List.length_singleton]; omega
  · rw [List.map_append, List.nodup_append]
    refine ⟨h.nd, by simp, ?_⟩
    intro a ha' b hb' hab
    simp at hb'
    obtain ⟨⟨k', u⟩, hm, rfl⟩ := List.mem_map.1 ha'
    simp only at hab
    rw [hab, hb'] at hm
    exact hno u ((hh y u).2 hm)
end Go.Proofs.Ythidnipmkffilaa
