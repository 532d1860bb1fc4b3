/-
  MonB
-/
import Derived.Test.YtlhbgaiiehljpaaGreatGAl
import Derived.Deep.RegionWith
import Derived.Test.YtlhbgaiiehljpaaGreatGAa
import Derived.Maps.OwnSet
import Derived.Maps.Range
import Derived.Maps.Views
import Derived.Maps.RangeWalk
import Derived.DeepKeys3
import Derived.Deep.LoopGhost
namespace Go.Proofs.YtlhbgaiiehljpaaGreat
open Go.RowKit MonM
set_option linter.unusedVariables false
theorem bcell {W w1 : World} (hb : Below W.heap.size W w1) : (∀ b o, b < W.heap.size → w1.cell? ⟨b, o, none⟩ = W.cell? ⟨b, o, none⟩) ∧ (∀ b o, b < W.heap.size → w1.frozen? ⟨b, o, none⟩ = W.frozen? ⟨b, o, none⟩) :=
 ⟨fun b o h => hb.cell (p := ⟨b, o, none⟩) h, fun b o h => hb.frozen (p := ⟨b, o, none⟩) h⟩
theorem bal {w w' : World} (h : Below w.heap.size w w') (o : Obj) : Below w.heap.size w (w'.alloc o) := h.alloc h.size o
theorem btr {w w' w1 : World} (h : Below w.heap.size w w') (k : Below w'.heap.size w' w1) : Below w.heap.size w w1 := h.trans (k.mono h.size)
theorem b0 (w : World) : Below w.heap.size w w := Below.refl _ _
set_option maxHeartbeats 1000000 in
theorem madd_walk (H1 L1 H2 L2 h l c T t : Int) (w : World) (hT : T = 0 ∨ T = 9223372036854775808)
  (k1 : ∀ w, (callFunc 55 #[.int .u64 L1, .int .u64 L2, .int .u64 0]).run Tryz.prog w = .ok (.value (.tuple #[.int .u64 l, .int .u64 c])) w)
  (k2 : ∀ w, (callFunc 55 #[.int .u64 H1, .int .u64 H2, .int .u64 c]).run Tryz.prog w = .ok (.value (.tuple #[.int .u64 h, .int .u64 t])) w)
  (ht : bits .and .u64 (bits .and .u64 (bits .xor .u64 H1 h) (bits .xor .u64 H2 h)) 9223372036854775808 = T) :
  Calls Tryz.prog 26 #[.agg #[.int .u64 H1, .int .u64 L1], .agg #[.int .u64 H2, .int .u64 L2]] w fun e w' =>
   (e = .returned (.tuple #[.agg #[.int .u64 (if T = 0 ∧ ¬ (h = 9223372036854775808 ∧ l = 0) then h else 0), .int .u64 (if T = 0 ∧ ¬ (h = 9223372036854775808 ∧ l = 0) then l else 0)], .int .i64 (if T = 0 ∧ ¬ (h = 9223372036854775808 ∧ l = 0) then 0 else 10)])) ∧ Below w.heap.size w w' := by
 rcases hT with rfl | rfl
 ·by_cases hn : h = 9223372036854775808 ∧ l = 0
  ·rw [if_neg (fun e => e.2 hn), if_neg (fun e => e.2 hn), if_neg (fun e => e.2 hn)]
   obtain ⟨rfl, rfl⟩ := hn
   go_enter Tryz.func26, Tryz.ntmps26
   go_wp2_with (first | simp only [k1] | simp only [k2])
   refine (none_yes _).mono ?_
   rintro e w1 ⟨rfl, hb⟩
   obtain ⟨hc, hf⟩ := bcell hb
   have hz := hb.size
   simp at hz
   have HB := hid hb
   clear hb
   go_wp2
   exact bodyPost_ret (v := .tuple #[.agg #[.int .u64 0, .int .u64 0], .int .i64 10]) (by simp [results, Tryz.results26, go_sem, hc]) rfl ⟨rfl, ((btr (bal (bal (bal (bal (b0 w) _) _) _) _) HB.out).setCell (by dsimp only; omega) _).setCell (by dsimp only; omega) _⟩
  ·rw [if_pos ⟨rfl, hn⟩, if_pos ⟨rfl, hn⟩, if_pos ⟨rfl, hn⟩]
   have HN := hid hn
   clear hn
   go_enter Tryz.func26, Tryz.ntmps26
   go_wp2_with (first | simp only [k1] | simp only [k2])
   refine (none_no h l _ HN.out).mono ?_
   rintro e w1 ⟨rfl, hb⟩
   obtain ⟨hc, hf⟩ := bcell hb
   have hz := hb.size
   simp at hz
   have HB := hid hb
   clear hb
   go_wp2
   exact bodyPost_ret (v := .tuple #[.agg #[.int .u64 h, .int .u64 l], .int .i64 0]) (by simp [results, Tryz.results26, go_sem, hc]) rfl ⟨rfl, ((btr (bal (bal (bal (bal (b0 w) _) _) _) _) HB.out).setCell (by dsimp only; omega) _).setCell (by dsimp only; omega) _⟩
 ·rw [if_neg (fun e => absurd e.1 (by decide)), if_neg (fun e => absurd e.1 (by decide)), if_neg (fun e => absurd e.1 (by decide))]
  go_enter Tryz.func26, Tryz.ntmps26
  go_wp2_with (first | simp only [k1] | simp only [k2])
  exact bodyPost_ret (v := .tuple #[.agg #[.int .u64 0, .int .u64 0], .int .i64 10]) (by simp [results, Tryz.results26, go_sem]) rfl ⟨rfl, bal (bal (bal (bal (b0 w) _) _) _) _⟩
/-- a sum, where it is one. -/
def maddV (m n : Int) : Int := if -170141183460469231731687303715884105727 ≤ m + n ∧ m + n ≤ 170141183460469231731687303715884105727 then m + n else 0
def maddE (m n : Int) : Int := if -170141183460469231731687303715884105727 ≤ m + n ∧ m + n ≤ 170141183460469231731687303715884105727 then 0 else 10
theorem madd_any (m n : Int) (w : World) (hm : Amt m) (hn : Amt n) :
  Calls Tryz.prog 26 #[mv m, mv n] w fun e w' => e = .returned (.tuple #[mv (maddV m n), .int .i64 (maddE m n)]) ∧ Below w.heap.size w w' := by
 obtain ⟨m0, m1⟩ := hm; obtain ⟨n0, n1⟩ := hn
 have hs := add_words m n
 have wm := words m (by omega) m1
 have wn := words n (by omega) n1
 have am := hiW_word m
 have an := hiW_word n
 have hA := hiW_word (m + n)
 have lm := loW_word m
 have ln := loW_word n
 have ls := loW_word (m + n)
 have ht := over_top (hiW m) (hiW n) (hiW (m + n)) am.1 am.2 an.1 an.2 hA.1 hA.2
 have k1 := fun w => add64_0 (loW m) (loW n) lm.1 ln.1 w
 have k2 := fun w => add64 (hiW m) (hiW n) ((loW m + loW n) / 18446744073709551616) am.1 an.1 (by omega) (by omega) w
 rw [← hs.2] at k1
 rw [← hs.1] at k2
 refine (madd_walk _ _ _ _ _ _ _ _ _ w ?_ k1 k2 ht).mono ?_
 ·split
  ·right; rfl
  ·left; rfl
 ·rintro e w' ⟨rfl, hb⟩
  refine ⟨?_, hb⟩
  unfold maddV maddE
  have key : ((if (decide (9223372036854775808 ≤ hiW m) != decide (9223372036854775808 ≤ hiW (m + n))) && (decide (9223372036854775808 ≤ hiW n) != decide (9223372036854775808 ≤ hiW (m + n))) then (9223372036854775808 : Int) else 0) = 0 ∧ ¬ (hiW (m + n) = 9223372036854775808 ∧ loW (m + n) = 0)) ↔
    (-170141183460469231731687303715884105727 ≤ m + n ∧ m + n ≤ 170141183460469231731687303715884105727) := by
   have ea : decide (9223372036854775808 ≤ hiW m) = decide (m < 0) := by congr 1; apply propext; omega
   have eb : decide (9223372036854775808 ≤ hiW n) = decide (n < 0) := by congr 1; apply propext; omega
   rw [ea, eb]
   have sum : hiW (m + n) * 18446744073709551616 + loW (m + n) = (m + n) % 340282366920938463463374607431768211456 := by unfold hiW loW; omega
   generalize hiW (m + n) = H at *
   generalize loW (m + n) = L at *
   by_cases h1 : m < 0 <;> by_cases h2 : n < 0 <;> by_cases h3 : 9223372036854775808 ≤ H <;> simp [h1, h2, h3] <;> omega
  by_cases hk : -170141183460469231731687303715884105727 ≤ m + n ∧ m + n ≤ 170141183460469231731687303715884105727
  ·have hk' := key.2 hk
   rw [if_pos hk', if_pos hk', if_pos hk', if_pos hk, if_pos hk]
  ·have hk' : ¬ _ := fun e => hk (key.1 e)
   rw [if_neg hk', if_neg hk', if_neg hk', if_neg hk, if_neg hk]
   rfl
theorem madd_amt (m n : Int) : Amt (maddV m n) := by unfold maddV Amt; split <;> omega
end Go.Proofs.YtlhbgaiiehljpaaGreat
namespace Go.Proofs.YtlhbgaiiehljpaaGreat.Ac
open Go.RowKit Go.Deep Go.Maps Go.ChangeMaps Go.WideElems MonM Go.Proofs.YtlhbgaiiehljpaaGreat
set_option linter.unusedVariables false
set_option linter.unusedSimpArgs false
set_option maxRecDepth 100000
theorem ranges_turn {H : Type} {P : Program} {k : TypeId} {R : Value → Option (DataW H × List MemPlace)} {w : World} {b r n : Nat} {D : DataW H} {left : Lit → Bool} {cnt : Nat} {t e : TypeId} (h : w.ranges P k R b r n D left cnt) (K : Keyed P k) (ht : P.underlying t = some (.map k e)) (hn : n < maxLen) {key val : Value} {kl : Lit} {yv : DataW H × List MemPlace} (hkey : keyOf P k key = some kl) (hv : R val = some yv) (hh : Maps.has D kl = true) (z : Value) (hz : ∀ w, (zeroValue e).run P w = .ok z w) (zd : DataW H × List MemPlace) (hzd : R z = some zd) :
  ∃ w', (Instr.mapUpdate t (.map (some b)) key val).run P w = .ok () w' ∧ w'.ranges P k R b r n (D.put kl yv.1) left cnt ∧ w.mapTurned w' b := by
 have hne := h.ne
 obtain ⟨es, clock, since, seen, c0, hb, F, hs, rfl, hr, hold, hc, hl1, hl2, hsc, hsk⟩ := h
 obtain ⟨es', clock', hrun, F', hput, _, _, _⟩ := Maps.fit_store (R' := R) K ht hb F (Nat.lt_of_le_of_lt hs hn) (fun x hx _ z hz => hz) hkey hv
 rcases K.find w hkey es.toList F.keys with ⟨h1, h2⟩ | ⟨j, e0, h1, h2, h3⟩
 ·exfalso
  rcases Maps.fit_look true K ht (hz w) hb F hkey with ⟨_, _, hat⟩ | ⟨e1, y, hm, hk, _⟩
  ·rw [Maps.has_false_of_atKey hat] at hh
   cases hh
  ·exact h2 e1 hm hk
 ·have hj : es[j]? = some e0 := by simpa using h2
  have hjl : j < es.toList.length := (List.getElem?_eq_some_iff.1 h2).1
  have hrun2 : (Instr.mapUpdate t (.map (some b)) key val).run P w = .ok () (setBlock w b (.map (es.modify j (fun e' => { e' with key := key, val := val })) clock)) := by
   simp [Instr.mapUpdate, run_underlying ht, MapKept.run_getObj_map hb, K.check w false hkey, h1, hj, h3, K.stays w hkey, MapKept.run_setObj_map _ hb, Result.andThen, setBlock]
  have hbb := congrArg (fun r => match r with | Result.ok _ u => u.heap[b]? | _ => none) (hrun.symm.trans hrun2)
  simp only [heap_setBlock_same hb] at hbb
  injection hbb with hbb
  injection hbb with e1 e2
  subst e1 e2
  have hlist : (es.modify j (fun e' => { e' with key := key, val := val })).toList = es.toList.set j { e0 with key := key, val := val } := by
   rw [Array.toList_modify]
   refine List.ext_getElem? (fun i => ?_)
   rw [List.getElem?_modify, List.getElem?_set]
   by_cases c : j = i
   ·subst c
    have hjs : j < es.size := by simpa using hjl
    have hje : es[j] = e0 := by
     rw [Array.getElem?_eq_getElem hjs] at hj
     exact Option.some.inj hj
    simp [hjs, hje]
   ·simp [c]
  have hmb : ((es.modify j (fun e' => { e' with key := key, val := val })).toList.map (·.born)) = es.toList.map (·.born) := by
   rw [hlist, List.map_set]
   refine List.ext_getElem? (fun i => ?_)
   rw [List.getElem?_set]
   by_cases c : j = i
   ·subst c
    have hjs : j < es.size := by simpa using hjl
    have hje : es[j] = e0 := by
     rw [Array.getElem?_eq_getElem hjs] at hj
     exact Option.some.inj hj
    simp [hjs, hje]
   ·simp [c]
  have he0 : e0 ∈ es.toList := List.mem_of_getElem? h2
  have hk0 : (rg P k R e0).1 = kl := by
   obtain ⟨y, hy⟩ := F.reads e0 he0
   have m1 := rd_key hy
   rw [h3, hkey] at m1
   rw [rg_of hy]
   exact (Option.some.inj m1).symm
  have hkn : (rg P k R { e0 with key := key, val := val }).1 = kl := by rw [rg_of (rd_mk hkey hv)]
  have who : ∀ x ∈ es.toList.set j { e0 with key := key, val := val }, x = { e0 with key := key, val := val } ∨ x ∈ es.toList := by
   intro x hx
   obtain ⟨i, hi, ex⟩ := List.getElem_of_mem hx
   rw [List.getElem_set] at ex
   split at ex
   ·exact Or.inl ex.symm
   ·have hi' : i < es.toList.length := by simpa using hi
    exact Or.inr (ex ▸ List.getElem_mem hi')
  refine ⟨_, hrun, ⟨_, _, since, seen, c0, heap_setBlock_same hb _, F', by simpa using hs, ?_, (heap_setBlock_other hb _ hne).trans hr, fun x hx => ?_, ?_, fun x hx => ?_, fun kl' hkl' => ?_, hsc, hsk⟩, ⟨es, _, _, _, hb, rfl⟩⟩
  ·rw [DataW.put_eq, hput]
  ·rw [hlist] at hx
   rcases who x hx with rfl | hx
   ·exact hold e0 he0
   ·exact hold x hx
  ·have e1 : ∀ a : Array MapEntry, (leftOf a seen).size = ((a.toList.map (·.born)).filter fun q => !seen.contains q).length := fun a => by
    unfold leftOf
    rw [← Array.length_toList, Array.toList_filter, List.filter_map, List.length_map]
    rfl
   rw [e1, hmb, ← e1]
   exact hc
  ·rw [hlist] at hx
   rcases who x hx with rfl | hx
   ·rw [hkn, ← hk0]
    exact hl1 e0 he0
   ·exact hl1 x hx
  ·obtain ⟨x, hx, rfl⟩ := hl2 kl' hkl'
   rw [hlist]
   obtain ⟨i, hi, ex⟩ := List.getElem_of_mem hx
   by_cases c : j = i
   ·subst c
    have : x = e0 := by
     have := List.getElem?_eq_getElem hi
     rw [h2, ex] at this
     exact (Option.some.inj this).symm
    subst this
    exact ⟨_, List.mem_iff_getElem.2 ⟨j, by simpa using hjl, by rw [List.getElem_set_self]⟩, by rw [hkn, hk0]⟩
   ·exact ⟨x, List.mem_iff_getElem.2 ⟨i, by simpa using hi, by rw [List.getElem_set_ne c, ex]⟩, rfl⟩
end Go.Proofs.YtlhbgaiiehljpaaGreat.Ac
