/-
  Encode.
-/
import Derived.Test.YtjpkodllemoniaaDoorWiF
import Derived.Test.YtjpkodllemoniaaDoorWiG
import Derived.Test.YtjpkodllemoniaaDoorRcE
namespace Go.Proofs.YtjpkodllemoniaaDoor.Wi
open Go.RowKit Go.Deep Go.Proofs.YtjpkodllemoniaaDoor.Crc
open Go.Proofs.YtjpkodllemoniaaDoor.Cp (btr ball row_on row_cell row_lt row_ne row6 Or Osz ors ors_len own_form)
open Go.Proofs.YtjpkodllemoniaaDoor.Sr (Rt RtW RtOk AllOk BoOk Rz)
set_option linter.unusedVariables false
set_option linter.unusedSimpArgs false
set_option maxHeartbeats 8000000
set_option maxRecDepth 100000
attribute [local go_sem ↓] Go.wp_at_zero Go.wp_at_succ
def mag : List Nat := [66, 82, 83, 66, 79, 79, 75, 49]
def obs (l : List Or) : List Nat := l.flatMap ob
/-- the bytes ahead of the sum. -/
def btz (cap meet high seq : Int) (b s : List Or) : List Nat := mag ++ hd cap meet high seq b.length s.length ++ obs (b ++ s)
/-- a book's bytes. -/
def bts (cap meet high seq : Int) (b s : List Or) : List Nat := btz cap meet high seq b s ++ le 4 (crc (btz cap meet high seq b s))
theorem obs_len : ∀ (l : List Or), (obs l).length = 29 * l.length
  | [] => rfl
  | x :: r => by
    have h := obs_len r
    unfold obs at h ⊢
    rw [List.flatMap_cons, List.length_append, ob_len, h, List.length_cons]
    omega
theorem obs_next (l : List Or) {i : Nat} (hi : i < l.length) : obs (l.take (i + 1)) = obs (l.take i) ++ ob l[i] := by
  unfold obs
  rw [List.take_succ_eq_append_getElem hi, List.flatMap_append]
  simp
theorem btz_len (cap meet high seq : Int) (b s : List Or) : (btz cap meet high seq b s).length = 31 + 29 * (b.length + s.length) := by
  unfold btz
  rw [List.length_append, List.length_append, hd_len, obs_len, List.length_append]
  show 8 + 23 + _ = _
  omega
theorem bts_len (cap meet high seq : Int) (b s : List Or) : (bts cap meet high seq b s).length = 35 + 29 * (b.length + s.length) := by
  unfold bts
  rw [List.length_append, btz_len, le_len]
  omega
theorem oct_app {a b : List Nat} (h : Oct a) (k : Oct b) : Oct (a ++ b) := fun x hx => (List.mem_append.1 hx).elim (h x) (k x)
theorem ob_oct (o : Or) : Oct (ob o) := oct_app (oct_app (oct_app (oct_app (oct_app (oct_app (le_oct _ _) (le_oct _ _)) (le_oct _ _)) (le_oct _ _)) (le_oct _ _)) (le_oct _ _)) (le_oct _ _)
theorem hd_oct (cap meet high seq : Int) (n m : Nat) : Oct (hd cap meet high seq n m) := oct_app (oct_app (oct_app (oct_app (oct_app (le_oct _ _) (le_oct _ _)) (le_oct _ _)) (le_oct _ _)) (le_oct _ _)) (le_oct _ _)
theorem obs_oct (l : List Or) : Oct (obs l) := fun x hx => by
  unfold obs at hx
  obtain ⟨o, _, ho⟩ := List.mem_flatMap.1 hx
  exact ob_oct o x ho
theorem mag_oct : Oct mag := fun x hx => by
  have : ∀ x ∈ mag, x < 256 := by decide
  exact this x hx
theorem btz_oct (cap meet high seq : Int) (b s : List Or) : Oct (btz cap meet high seq b s) := oct_app (oct_app mag_oct (hd_oct _ _ _ _ _ _)) (obs_oct _)
theorem bts_oct (cap meet high seq : Int) (b s : List Or) : Oct (bts cap meet high seq b s) := oct_app (btz_oct _ _ _ _ _ _) (le_oct _ _)
theorem Laid.on {w w' : World} (h : Laid w) (hb : Below w.heap.size w w') : Laid w' := fun k hk => (hb.cell (p := ⟨0, k, none⟩) (World.block_lt_of_cell? w _ (h k hk))).trans (h k hk)
theorem rz_osz {w : World} {p : Option Addr} {l : List Or} (h : Rz w p l) : Osz w p l := fun i hi => by
  obtain ⟨g, e, hg, a0, a1, a2, a3, a4, a5, a6⟩ := h i hi
  refine ⟨g, 0, e, hg, fun j hj => ?_⟩
  rw [Nat.zero_add]
  match j, hj with
  | 0, _ => exact a0
  | 1, _ => exact a1
  | 2, _ => exact a2
  | 3, _ => exact a3
  | 4, _ => exact a4
  | 5, _ => exact a5
  | 6, _ => exact a6
theorem own_kt {base b' : Nat} {w w' : World} {e : TypeId} {size n : Nat} {v : Value} {xs : List Value} (h : w.ownsRow base e size v n xs) (k : Kt b' w w') (h5 : e ≠ 5) (h4 : e ≠ 41) : w'.ownsRow base e size v n xs :=
  Cp.own_same h (fun g hg => by
    obtain ⟨cur, hc⟩ := Cp.own_ty h hg
    rw [k.2 g cur e hc h5 h4, hc])
/-- a member's number can be. -/
def MbW (o : Or) : Prop := 0 ≤ o.mb ∧ o.mb < 4294967296
/-- an order can be put. -/
def PutOk (o : Or) : Prop := (0 ≤ o.id ∧ o.id < 18446744073709551616) ∧ (0 ≤ o.mb ∧ o.mb < 18446744073709551616) ∧ (0 ≤ o.ty ∧ o.ty < 18446744073709551616) ∧ (0 ≤ o.pr ∧ o.pr < 18446744073709551616) ∧ (0 ≤ o.vi ∧ o.vi < 18446744073709551616) ∧ (0 ≤ o.hi ∧ o.hi < 18446744073709551616) ∧ (0 ≤ o.pk ∧ o.pk < 18446744073709551616)
theorem putOk_of {h : Int} {l : List Or} (h1 : AllOk h l) (h2 : ∀ i (hi : i < l.length), RtW l[i]) (h3 : ∀ i (hi : i < l.length), MbW l[i]) : ∀ i (hi : i < l.length), PutOk l[i] := fun i hi => by
  have a := h1 i hi
  have b := h2 i hi
  have c := h3 i hi
  unfold RtOk at a
  unfold MbW at c
  exact ⟨⟨b.id0, b.id1⟩, ⟨c.1, by omega⟩, ⟨by omega, by omega⟩, ⟨by omega, by omega⟩, ⟨b.vi0, b.vi1⟩, ⟨b.hi0, b.hi1⟩, ⟨b.pk0, b.pk1⟩⟩
theorem putOk_app {b s : List Or} (h : ∀ i (hi : i < b.length), PutOk b[i]) (k : ∀ i (hi : i < s.length), PutOk s[i]) : ∀ i (hi : i < (b ++ s).length), PutOk (b ++ s)[i] := fun i hi => by
  rw [List.getElem_append]
  split
  · exact h _ _
  · exact k _ _
theorem encode_no (cap meet high seq : Int) (pb ps : Option Addr) (cb cs n m : Nat) (b s : List Or) (w : World) (no : ¬ BoOk ⟨cap, meet, pb, cb, b, ps, cs, s, high, seq⟩) (rb : Rz w pb b) (rs : Rz w ps s)
    (hw1 : ∀ i (hi : i < b.length), RtW b[i]) (hw2 : ∀ i (hi : i < s.length), RtW s[i]) (hn : b.length = n) (hm : s.length = m) (hbig : n ≤ 4000000000000 ∧ m ≤ 4000000000000) :
    Calls Tryd.prog 6 #[.agg #[.int .i64 cap, .int .i64 meet, .slice pb n cb, .slice ps m cs, .int .u64 high, .int .u64 seq]] w fun e w' => e = .returned (.tuple #[.slice none 0 0, .int .i64 120]) ∧ Below w.heap.size w w' := by
  subst hn
  subst hm
  have CV := hid (fun (U : World) (hU : Below w.heap.size w U) => Sr.valid_any ⟨cap, meet, pb, cb, b, ps, cs, s, high, seq⟩ 120 (.inr ⟨no, rfl⟩) U (rb.on hU) (rs.on hU) hw1 hw2 hbig)
  unfold Sr.bor at CV
  simp only at CV
  clear no rb rs hw1 hw2 hbig
  obtain ⟨n, hn⟩ : ∃ n, b.length = n := ⟨_, rfl⟩
  obtain ⟨m, hm⟩ : ∃ n, s.length = n := ⟨_, rfl⟩
  rw [hn, hm] at CV ⊢
  clear hn hm
  obtain ⟨W0, hW0⟩ : ∃ U, w.alloc (.cells #[.int .i64 cap, .int .i64 meet, .slice pb n cb, .slice ps m cs, .int .u64 high, .int .u64 seq] 27) = U := ⟨_, rfl⟩
  obtain ⟨R, hR⟩ : ∃ R, w.heap.size = R := ⟨_, rfl⟩
  have BA := hid (show Below w.heap.size w W0 from by rw [← hW0]; exact ball _ _)
  obtain ⟨b0, b1, b2, b3, b4, b5⟩ := row6 (show W0.heap[R]? = some (.cells #[.int .i64 cap, .int .i64 meet, .slice pb n cb, .slice ps m cs, .int .u64 high, .int .u64 seq] 27 (0, 0)) from by rw [← hW0, ← hR]; exact World.alloc_heap_new _ _)
  go_enter Tryd.func6, Tryd.ntmps6
  go_upto_region 1 with fail
  clear hW0 hR
  go_upto_region 2 with (go_at_call 13; with_reducible refine (CV.out _ BA.out).mono ?_; rintro e w1 ⟨rfl, h1⟩; have B1 := hid h1; clear h1)
  go_wp2
  go_ret2
  exact ⟨rfl, btr BA.out B1.out⟩
end Go.Proofs.YtjpkodllemoniaaDoor.Wi
