/-
  FeO
-/
import Derived.Test.YtojmcfkbekodpaaGm
namespace Go.Proofs.Ytojmcfkbekodpaa.Fd
open Go.RowKit Go.Deep
set_option linter.unusedVariables false
set_option linter.unusedSimpArgs false
set_option maxHeartbeats 2000000
set_option maxRecDepth 100000
theorem pictureP_any (B : Nat) (d sq : Int) (p1 p2 : Option Addr) (c1 c2 : Nat) (l1 l2 : List Lv) (w : World) (hB : w.heap[B]? = some (.cells #[.int .i64 d, .int .u64 sq, .slice p1 l1.length c1, .slice p2 l2.length c2] 73 (0, 0))) (h1 : Rl w p1 c1 l1) (h2 : Rl w p2 c2 l2) (b1 : l1.length * 24 ≤ 140737488355328) (b2 : l2.length * 24 ≤ 140737488355328) :
    Calls Try.prog 13 #[.pointer (some ⟨B, 0, none⟩)] w fun e w' => ∃ q1 d1 q2 d2, e = .returned (.agg #[.int .u64 sq, .slice q1 l1.length d1, .slice q2 l2.length d2]) ∧ Lo w.heap.size w' q1 d1 l1 ∧ Lo w.heap.size w' q2 d2 l2 ∧ (∀ g, OfP q1 g → ¬ OfP q2 g) ∧ Below w.heap.size w w' := by
  obtain ⟨R, hR⟩ : ∃ R, w.heap.size = R := ⟨_, rfl⟩
  obtain ⟨n1, hn1⟩ : ∃ n, l1.length = n := ⟨_, rfl⟩
  obtain ⟨n2, hn2⟩ : ∃ n, l2.length = n := ⟨_, rfl⟩
  obtain ⟨W, hW⟩ : ∃ W, w.alloc (.cells #[.int .u64 0, .slice none 0 0, .slice none 0 0] 49) = W := ⟨_, rfl⟩
  have hb0 : Below w.heap.size w W := by rw [← hW]; exact ball _ _
  have hsz : W.heap.size = R + 1 := by rw [← hW, ← hR]; simp
  have HB := hid hb0
  have HZ := hid (show W.heap[R]? = some (.cells #[.int .u64 0, .slice none 0 0, .slice none 0 0] 49 (0, 0)) from by rw [← hW, ← hR]; exact World.alloc_heap_new _ _)
  have HW := hid hW
  have HR := hid hR
  have HS := hid hsz
  have C := hid (copied_any sq p1 p2 c1 c2 l1 l2 W (h1.on hb0) (h2.on hb0) b1 b2)
  obtain ⟨k0, k1, k2, k3⟩ := row4 (row_on hB hb0)
  rw [hn1, hn2] at C
  rw [hn1] at k2
  rw [hn2] at k3
  rw [hn1, hn2]
  clear h1 h2 b1 b2 hb0 hB hsz hW hR hn1 hn2
  go_enter Try.func13, Try.ntmps13
  go_upto_region 1 with fail
  rw [HW.out, HR.out]
  go_wp2_with (go_at_call 38; with_reducible refine (C.out).mono ?_; rintro e w1 ⟨q1, d1, q2, d2, rfl, hl1, hl2, ha, hb⟩; have HL1 := hid hl1; have HL2 := hid hl2; have HA := hid ha; have HB1 := hid hb; have HZ1 := hid (row_on HZ.out hb); clear hl1 hl2 ha hb; refine Hid.out ?_)
  have AI := hid (show (Try.prog.info? 49).map (·.size) = some (#[.int .u64 sq, .slice q1 n1 d1, .slice q2 n2 d2] : Array Value).size from infoP)
  have AS := hid (show (#[.int .u64 0, .slice none 0 0, .slice none 0 0] : Array Value).size = (#[.int .u64 sq, .slice q1 n1 d1, .slice q2 n2 d2] : Array Value).size from rfl)
  have AA := hid (show (#[.int .u64 sq, .slice q1 n1 d1, .slice q2 n2 d2] : Array Value).all (·.oneCell') = true from by simp [Value.oneCell'])
  refine hid ?_
  go_wp2_with (refine wpList_store_row (by rfl) 49 (.tmp 2) (.tmp 7) (by rfl) R #[.int .u64 sq, .slice q1 n1 d1, .slice q2 n2 d2] (by rfl) (by rfl) 49 _ HZ1.out AI.out AS.out AA.out ?_)
  refine bodyPost_ret (results_cell_row (fn := Try.f13) Try.results13 _ _ R 49 #[.int .u64 sq, .slice q1 n1 d1, .slice q2 n2 d2] (0, 0) _ (by rfl) (setRow_heap _ _ _ _ 49 (0, 0) HZ1.out) Try.underlying49 rfl infoP) rfl ⟨q1, d1, q2, d2, rfl, ?_, ?_, HA.out, ?_⟩
  · exact (HL1.out.setRow (by have := HS.out; omega)).base HB.out.size
  · exact (HL2.out.setRow (by have := HS.out; omega)).base HB.out.size
  · exact setRow_below (btr HB.out HB1.out) (by have := HR.out; omega)
end Go.Proofs.Ytojmcfkbekodpaa.Fd
namespace Go.Proofs.Ytojmcfkbekodpaa.Fd
open Go.RowKit Go.Deep
set_option linter.unusedVariables false
set_option linter.unusedSimpArgs false
set_option maxHeartbeats 2000000
set_option maxRecDepth 100000
/-- an event. -/
structure Ev where
  sq : Int
  kd : Int
  id : Int
  ot : Int
  tg : Int
  mb : Int
  sd : Int
  ty : Int
  pr : Int
  qt : Int
  pk : Int
  rs : Int
  cd : Int
deriving DecidableEq
def evc (l : List Ev) : List Value := l.flatMap fun x => (#[.int .u64 x.sq, .int .i64 x.kd, .int .u64 x.id, .int .u64 x.ot, .int .u64 x.tg, .int .u32 x.mb, .int .i64 x.sd, .int .i64 x.ty, .int .i64 x.pr, .int .u64 x.qt, .int .u64 x.pk, .int .i64 x.rs, .int .i64 x.cd] : Array Value).toList
theorem evc_cons (x : Ev) (l : List Ev) : evc (x :: l) = (#[.int .u64 x.sq, .int .i64 x.kd, .int .u64 x.id, .int .u64 x.ot, .int .u64 x.tg, .int .u32 x.mb, .int .i64 x.sd, .int .i64 x.ty, .int .i64 x.pr, .int .u64 x.qt, .int .u64 x.pk, .int .i64 x.rs, .int .i64 x.cd] : Array Value).toList ++ evc l := by simp [evc]
theorem evc_len (l : List Ev) : (evc l).length = l.length * 13 := by
  induction l with
  | nil => rfl
  | cons x l ih => rw [evc_cons, List.length_append, ih, List.length_cons]; simp; omega
theorem evc_get {l : List Ev} {i : Nat} (hi : i < l.length) (j : Nat) (hj : j < 13) : (evc l)[i * 13 + j]? = (#[.int .u64 l[i].sq, .int .i64 l[i].kd, .int .u64 l[i].id, .int .u64 l[i].ot, .int .u64 l[i].tg, .int .u32 l[i].mb, .int .i64 l[i].sd, .int .i64 l[i].ty, .int .i64 l[i].pr, .int .u64 l[i].qt, .int .u64 l[i].pk, .int .i64 l[i].rs, .int .i64 l[i].cd] : Array Value).toList[j]? := by
  induction l generalizing i with
  | nil => simp at hi
  | cons x l ih =>
    have hx : (#[.int .u64 x.sq, .int .i64 x.kd, .int .u64 x.id, .int .u64 x.ot, .int .u64 x.tg, .int .u32 x.mb, .int .i64 x.sd, .int .i64 x.ty, .int .i64 x.pr, .int .u64 x.qt, .int .u64 x.pk, .int .i64 x.rs, .int .i64 x.cd] : Array Value).toList.length = 13 := rfl
    rw [evc_cons]
    cases i with
    | zero => rw [Nat.zero_mul, Nat.zero_add, List.getElem?_append_left (by rw [hx]; omega)]; rfl
    | succ i =>
      have := ih (i := i) (by simpa using hi)
      rw [List.getElem?_append_right (by rw [hx]; omega), hx, show (i + 1) * 13 + j - 13 = i * 13 + j by omega]
      exact this
/-- events that may be read. -/
structure Re (w : World) (p : Option Addr) (c : Nat) (l : List Ev) : Prop where
  nil : p = none → l = [] ∧ c = 0
  cap : l.length ≤ c
  max : c ≤ maxLen
  get : ∀ ad, p = some ad → ∀ j u, (evc l)[j]? = some u → w.cell? (ad.add j) = some u
theorem Re.some {w : World} {p : Option Addr} {c : Nat} {l : List Ev} (h : Re w p c l) (hl : 0 < l.length) : ∃ g o, p = Option.some ⟨g, o, none⟩ ∧ g < w.heap.size := by
  cases p with
  | none => have := (h.nil rfl).1; subst this; simp at hl
  | some ad =>
    have := h.get ad rfl (0 * 13 + 0) (.int .u64 (l[0]).sq) (by rw [evc_get hl 0 (by omega)]; rfl)
    obtain ⟨g, o, sp⟩ := ad
    have e : sp = none := by simpa [Addr.add] using World.cell?_spot this
    subst e
    refine ⟨g, o, rfl, ?_⟩
    rw [Addr.add_mid] at this
    exact block_lt_of_cell (v := .int .u64 (l[0]).sq) this
theorem Re.same {w w' : World} {p : Option Addr} {c : Nat} {l : List Ev} (h : Re w p c l) (hs : ∀ g o, p = Option.some ⟨g, o, none⟩ → g < w.heap.size → w'.heap[g]? = w.heap[g]?) : Re w' p c l := by
  refine ⟨h.nil, h.cap, h.max, fun ad e j u hj => ?_⟩
  have hl : 0 < l.length := by
    have := (List.getElem?_eq_some_iff.1 hj).1
    rw [evc_len] at this; omega
  obtain ⟨g, o, e2, hg⟩ := h.some hl
  rw [e2] at e
  injection e with e
  subst e
  have := h.get _ e2 j u hj
  rw [Addr.add_mid] at this ⊢
  rw [← this]
  simp only [World.cell?, hs g o e2 hg]
theorem Re.on {w w' : World} {p : Option Addr} {c : Nat} {l : List Ev} (h : Re w p c l) (hb : Below w.heap.size w w') : Re w' p c l := h.same (fun g o _ hg => hb.block g hg)
theorem Re.cells {w : World} {p : Option Addr} {c : Nat} {l : List Ev} (h : Re w p c l) {i : Nat} (hi : i < l.length) : ∃ g o, p = Option.some ⟨g, o, none⟩ ∧ g < w.heap.size ∧ w.cell? ⟨g, o + i * 13, none⟩ = Option.some (.int .u64 l[i].sq) ∧ w.cell? ⟨g, o + i * 13 + 1, none⟩ = Option.some (.int .i64 l[i].kd) ∧ w.cell? ⟨g, o + i * 13 + 2, none⟩ = Option.some (.int .u64 l[i].id) ∧ w.cell? ⟨g, o + i * 13 + 3, none⟩ = Option.some (.int .u64 l[i].ot) ∧ w.cell? ⟨g, o + i * 13 + 4, none⟩ = Option.some (.int .u64 l[i].tg) ∧ w.cell? ⟨g, o + i * 13 + 5, none⟩ = Option.some (.int .u32 l[i].mb) ∧ w.cell? ⟨g, o + i * 13 + 6, none⟩ = Option.some (.int .i64 l[i].sd) ∧ w.cell? ⟨g, o + i * 13 + 7, none⟩ = Option.some (.int .i64 l[i].ty) ∧ w.cell? ⟨g, o + i * 13 + 8, none⟩ = Option.some (.int .i64 l[i].pr) ∧ w.cell? ⟨g, o + i * 13 + 9, none⟩ = Option.some (.int .u64 l[i].qt) ∧ w.cell? ⟨g, o + i * 13 + 10, none⟩ = Option.some (.int .u64 l[i].pk) ∧ w.cell? ⟨g, o + i * 13 + 11, none⟩ = Option.some (.int .i64 l[i].rs) ∧ w.cell? ⟨g, o + i * 13 + 12, none⟩ = Option.some (.int .i64 l[i].cd) := by
  obtain ⟨g, o, rfl, hg⟩ := h.some (by omega)
  have go : ∀ j, j < 13 → ∀ u, (#[.int .u64 l[i].sq, .int .i64 l[i].kd, .int .u64 l[i].id, .int .u64 l[i].ot, .int .u64 l[i].tg, .int .u32 l[i].mb, .int .i64 l[i].sd, .int .i64 l[i].ty, .int .i64 l[i].pr, .int .u64 l[i].qt, .int .u64 l[i].pk, .int .i64 l[i].rs, .int .i64 l[i].cd] : Array Value).toList[j]? = Option.some u → w.cell? ⟨g, o + i * 13 + j, none⟩ = Option.some u := fun j hj u hu => by
    have := h.get _ rfl (i * 13 + j) u (by rw [evc_get hi j hj]; exact hu)
    rw [Addr.add_mid, ← Nat.add_assoc] at this
    exact this
  exact ⟨g, o, rfl, hg, go 0 (by omega) _ rfl, go 1 (by omega) _ rfl, go 2 (by omega) _ rfl, go 3 (by omega) _ rfl, go 4 (by omega) _ rfl, go 5 (by omega) _ rfl, go 6 (by omega) _ rfl, go 7 (by omega) _ rfl, go 8 (by omega) _ rfl, go 9 (by omega) _ rfl, go 10 (by omega) _ rfl, go 11 (by omega) _ rfl, go 12 (by omega) _ rfl⟩
def dvc (l : List Dm) : List Value := l.flatMap fun x => (#[.int .u64 x.sq, .int .i64 x.kd, .int .i64 x.sd, .int .i64 x.pr, .int .u64 x.qt, .int .i64 x.ct] : Array Value).toList
theorem dvc_cons (x : Dm) (l : List Dm) : dvc (x :: l) = (#[.int .u64 x.sq, .int .i64 x.kd, .int .i64 x.sd, .int .i64 x.pr, .int .u64 x.qt, .int .i64 x.ct] : Array Value).toList ++ dvc l := by simp [dvc]
theorem dvc_app (a b : List Dm) : dvc (a ++ b) = dvc a ++ dvc b := by simp [dvc]
theorem dvc_len (l : List Dm) : (dvc l).length = l.length * 6 := by
  induction l with
  | nil => rfl
  | cons x l ih => rw [dvc_cons, List.length_append, ih, List.length_cons]; simp; omega
theorem dvc_one (l : List Dm) : ∀ u ∈ dvc l, u.oneCell' = true := by
  intro u hu
  simp only [dvc, List.mem_flatMap] at hu
  obtain ⟨x, _, hx⟩ := hu
  simp only [List.mem_cons, List.not_mem_nil, or_false] at hx
  rcases hx with rfl | rfl | rfl | rfl | rfl | rfl <;> rfl
theorem dvc_get {l : List Dm} {i : Nat} (hi : i < l.length) (j : Nat) (hj : j < 6) : (dvc l)[i * 6 + j]? = (#[.int .u64 l[i].sq, .int .i64 l[i].kd, .int .i64 l[i].sd, .int .i64 l[i].pr, .int .u64 l[i].qt, .int .i64 l[i].ct] : Array Value).toList[j]? := by
  induction l generalizing i with
  | nil => simp at hi
  | cons x l ih =>
    have hx : (#[.int .u64 x.sq, .int .i64 x.kd, .int .i64 x.sd, .int .i64 x.pr, .int .u64 x.qt, .int .i64 x.ct] : Array Value).toList.length = 6 := rfl
    rw [dvc_cons]
    cases i with
    | zero => rw [Nat.zero_mul, Nat.zero_add, List.getElem?_append_left (by rw [hx]; omega)]; rfl
    | succ i =>
      have := ih (i := i) (by simpa using hi)
      rw [List.getElem?_append_right (by rw [hx]; omega), hx, show (i + 1) * 6 + j - 6 = i * 6 + j by omega]
      exact this
/-- messages in a slice of one's own. -/
def Dw (b : Nat) (w : World) (p : Option Addr) (c : Nat) (l : List Dm) : Prop := w.ownsRow b 47 6 (.slice p l.length c) l.length (dvc l)
theorem Dw.on {b : Nat} {w w' : World} {p : Option Addr} {c : Nat} {l : List Dm} (h : Dw b w p c l) (hb : Below w.heap.size w w') : Dw b w' p c l := own_on h hb
theorem Dw.nil0 (b : Nat) (w : World) : Dw b w none 0 [] := own_nil w b _ _
theorem Dw.base {b b' : Nat} {w : World} {p : Option Addr} {c : Nat} {l : List Dm} (h : Dw b w p c l) (hb : b' ≤ b) : Dw b' w p c l := own_base h hb
theorem rd_new (U : World) (x : Dm) : ∀ ad, some (⟨U.heap.size, 0, none⟩ : Addr) = some ad → ∀ j u, (dvc [x])[j]? = some u → (U.alloc (.cells #[.int .u64 x.sq, .int .i64 x.kd, .int .i64 x.sd, .int .i64 x.pr, .int .u64 x.qt, .int .i64 x.ct] 47)).cell? (ad.add j) = some u := by
  intro ad e j u hj
  injection e with e
  subst e
  rw [Addr.add_lit, Nat.zero_add, row_cell (World.alloc_heap_new _ _)]
  simpa [dvc] using hj
/-- the trades among events. -/
def tr1 (e : Ev) : Dm := ⟨1, 2, e.sd, e.pr, e.qt, 0⟩
def trd (l : List Ev) : List Dm := (l.filter fun e => e.kd == 3).map tr1
def trOk (l : List Ev) : Bool := (trd l).all dOk
theorem trd_snoc (l : List Ev) (i : Nat) (h : i < l.length) : trd (l.take (i + 1)) = trd (l.take i) ++ if l[i].kd == 3 then [tr1 l[i]] else [] := by
  rw [List.take_succ_eq_append_getElem h]
  unfold trd
  rw [List.filter_append, List.map_append]
  congr 1
  by_cases e : l[i].kd = 3
  · simp [e]
  · simp [e]
theorem trd_len (l : List Ev) : (trd l).length ≤ l.length := by
  unfold trd
  rw [List.length_map]
  exact List.length_filter_le _ _
theorem trOk_not {l : List Ev} {i : Nat} (h : i < l.length) (h3 : l[i].kd = 3) (hd : dOk (tr1 l[i]) = false) : trOk l = false := by
  unfold trOk
  rw [List.all_eq_false]
  refine ⟨tr1 l[i], ?_, by rw [hd]; decide⟩
  unfold trd
  exact List.mem_map.2 ⟨l[i], List.mem_filter.2 ⟨List.getElem_mem h, by simp [h3]⟩, rfl⟩
theorem trades_any (p : Option Addr) (c : Nat) (l : List Ev) (w : World) (h : Re w p c l) (hl : l.length * 104 ≤ 140737488355328) :
    Calls Try.prog 30 #[.slice p l.length c] w fun e w' => Below w.heap.size w w' ∧ ((trOk l = false ∧ e = .returned (.tuple #[.slice none 0 0, .bool false])) ∨ (trOk l = true ∧ ∃ q d, e = .returned (.tuple #[.slice q (trd l).length d, .bool true]) ∧ Dw w.heap.size w' q d (trd l))) := by
  have hmax := h.max
  have hcap := h.cap
  unfold maxLen at hmax
  have HL := hid h
  have CC := hid (fun (x : Dm) (U : World) => canBe_any x U)
  obtain ⟨n, hn⟩ : ∃ n, l.length = n := ⟨_, rfl⟩
  have HN := hid hn
  rw [hn] at hcap hl ⊢
  clear h hn
  go_enter Try.func30, Try.ntmps30
  go_wp2
  go_loopw [4, 10] (fun tv iv wr => ∃ (i : Nat) (q : Option Addr) (d m : Nat), i ≤ n ∧ iv = .int .i64 i ∧ tv = .slice q m d ∧ m ≤ i ∧ Hid (m = (trd (l.take i)).length) ∧ Hid (wr.ownsRow w.heap.size 47 6 (.slice q m d) m (dvc (trd (l.take i)))) ∧ Hid ((trd (l.take i)).all dOk = true) ∧ Hid (Below w.heap.size w wr)) (fun _ iv _ => n - (intOf iv).toNat)
  case atStart => exact ⟨0, none, 0, 0, by omega, rfl, rfl, by omega, rfl, own_nil _ _ _ _, rfl, Below.refl _ _⟩
  case round =>
    obtain ⟨i, q, d, m, hi, rfl, rfl, hm, HM, HO, HA, HB⟩ := hrel
    by_cases hlt : i < n
    · have hil : i < l.length := by have := HN.out; omega
      obtain ⟨g, o, rfl, sg, A0⟩ := (HL.out.on HB.out).cells hil
      obtain ⟨z, hz⟩ : ∃ z, l[i] = z := ⟨_, rfl⟩
      rw [hz] at A0
      have HZ := hid hz
      obtain ⟨a0, a1, a2, a3, a4, a5, a6, a7, a8, a9, a10, a11, a12⟩ := A0
      have i0 : (0 : Int) ≤ (i : Int) := by omega
      have i1 : (i : Int) < (n : Int) := by omega
      by_cases h3 : z.kd = 3
      · have q3 : (z.kd != 3) = false := by simpa using h3
        obtain ⟨W, hW⟩ : ∃ W, (wr.alloc (.cells #[.int .u64 z.sq, .int .i64 z.kd, .int .u64 z.id, .int .u64 z.ot, .int .u64 z.tg, .int .u32 z.mb, .int .i64 z.sd, .int .i64 z.ty, .int .i64 z.pr, .int .u64 z.qt, .int .u64 z.pk, .int .i64 z.rs, .int .i64 z.cd] 45)).alloc (.cells #[.int .u64 1, .int .i64 2, .int .i64 z.sd, .int .i64 z.pr, .int .u64 z.qt, .int .i64 0] 47) = W := ⟨_, rfl⟩
        obtain ⟨R, hR⟩ : ∃ R, wr.heap.size = R := ⟨_, rfl⟩
        obtain ⟨hb0, x0, x1, hsz⟩ := alloc2 hR hW
        have HBW := hid (btr HB.out hb0)
        have HBR := hid hb0
        have HD := hid (x1 _ _ rfl)
        have HW := hid hW
        have HRR := hid hR
        have C1 := hid (CC.out (tr1 z) W)
        have H3 := hid (show l[i].kd = 3 from by rw [hz]; exact h3)
        have HT := hid (show trd (l.take (i + 1)) = trd (l.take i) ++ [tr1 z] from by rw [trd_snoc l i hil, hz]; simp [h3])
        cases hd : dOk (tr1 z) with
        | false =>
          rw [hd] at C1
          have E := hid (show trOk l = false from trOk_not hil H3.out (by rw [hz]; exact hd))
          simp only [tr1] at C1
          clear hz h3 hd hb0 x0 x1 hsz hW hR
          go_upto_region 7 with fail
          rw [HW.out, HRR.out]
          obtain ⟨k0, k1, k2, k3, k4, k5⟩ := row6 HD.out
          go_wp2_with (go_at_call 39; with_reducible refine (C1.out).mono ?_; rintro e w1 ⟨rfl, hb⟩; have HB1 := hid hb; clear hb)
          go_ret2
          exact ⟨btr HBW.out HB1.out, .inl ⟨E.out, rfl⟩⟩
        | true =>
          rw [hd] at C1
          have HDK := hid hd
          simp only [tr1] at C1
          clear hz h3 hd hb0 x0 x1 hsz hW hR
          go_upto_region 7 with fail
          rw [HW.out, HRR.out]
          obtain ⟨k0, k1, k2, k3, k4, k5⟩ := row6 HD.out
          go_upto_region 9 with (go_at_call 39; with_reducible refine (C1.out).mono ?_; rintro e w1 ⟨rfl, hb⟩; have HB1 := hid hb; obtain ⟨k0, k1, k2, k3, k4, k5⟩ := row6 (row_on HD.out hb); clear hb)
          have HX := hid (own_on HO.out (btr (btr HBR.out HB1.out) (ball w1 (.cells #[.int .u64 1, .int .i64 2, .int .i64 z.sd, .int .i64 z.pr, .int .u64 z.qt, .int .i64 0] 47))))
          have HBX := hid (btr (btr HBW.out HB1.out) (ball w1 (.cells #[.int .u64 1, .int .i64 2, .int .i64 z.sd, .int .i64 z.pr, .int .u64 z.qt, .int .i64 0] 47)))
          have RN := hid (rd_new w1 (tr1 z))
          have HLN := hid (dvc_len [tr1 z])
          go_wp2_with (at_builtin; refine wpList_app_rd (by rfl) (.tmp 27) (.tmp 29) 39 47 _ 6 48 (by rfl) Try.underlying39 infoD6 rfl (by decide) w.heap.size _ m (dvc (trd (l.take i))) (by rfl) HX.out (some ⟨w1.heap.size, 0, none⟩) 1 1 (dvc [tr1 z]) (by rfl) (fun e => by cases e) HLN.out RN.out (dvc_one _) (by unfold maxLen; omega) (by omega) HBX.out.size ?_; intro v' w' hown hgrow; obtain ⟨p1, q1, rfl⟩ := own_form hown; have HO1 := hid hown; have HG1 := hid (below_grown (base := 0) HBX.out HX.out hgrow); clear hown hgrow)
          go_roundw
          case rel =>
            refine ⟨i + 1, p1, q1, m + 1, by omega, by go_num, rfl, by omega, ?_, ?_, ?_, HG1.out⟩
            · rw [HT.out, List.length_append, ← HM.out]; rfl
            · rw [HT.out, dvc_app]; exact HO1.out
            · exact (show (trd (l.take (i + 1))).all dOk = true from by rw [HT.out, List.all_append, HA.out]; simp [HDK.out])
          case measure => simp [intOf]; omega
      · have q3 : (z.kd != 3) = true := by simpa using h3
        have HT := hid (show trd (l.take (i + 1)) = trd (l.take i) from by rw [trd_snoc l i hil, hz]; simp [h3])
        have HBW := hid (ball wr (.cells #[.int .u64 z.sq, .int .i64 z.kd, .int .u64 z.id, .int .u64 z.ot, .int .u64 z.tg, .int .u32 z.mb, .int .i64 z.sd, .int .i64 z.ty, .int .i64 z.pr, .int .u64 z.qt, .int .u64 z.pk, .int .i64 z.rs, .int .i64 z.cd] 45))
        clear hz h3
        go_wp2
        go_roundw
        case rel =>
          refine ⟨i + 1, q, d, m, by omega, by go_num, rfl, by omega, ?_, ?_, ?_, btr HB.out HBW.out⟩
          · rw [HT.out]; exact HM.out
          · rw [HT.out]; exact own_on HO.out HBW.out
          · rw [HT.out]; exact HA.out
        case measure => simp [intOf]; omega
    · obtain rfl : i = n := by omega
      have HE := hid (show l.take i = l from List.take_of_length_le (by have := HN.out; omega))
      go_wp2
      go_ret2
      refine ⟨HB.out, .inr ⟨by unfold trOk; rw [← HE.out]; exact HA.out, q, d, ?_, ?_⟩⟩
      · rw [← HE.out, ← HM.out]; rfl
      · unfold Dw
        have := HO.out
        rw [HE.out] at this
        rw [show (trd l).length = m from by rw [← HE.out, HM.out]]
        exact this
end Go.Proofs.Ytojmcfkbekodpaa.Fd
