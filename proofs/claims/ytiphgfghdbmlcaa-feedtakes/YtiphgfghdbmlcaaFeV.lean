/-
  Publish.
-/
import Derived.Test.YtiphgfghdbmlcaaFeU
namespace Go.Proofs.Ytiphgfghdbmlcaa
open Go.RowKit Go.Deep
set_option linter.unusedVariables false
set_option linter.unusedSimpArgs false
set_option maxHeartbeats 4000000
set_option maxRecDepth 100000
/-- a publisher. -/
structure Pb (w : World) (B d : Nat) (sq : Int) (p1 : Option Addr) (c1 : Nat) (l1 : List Lv) (p2 : Option Addr) (c2 : Nat) (l2 : List Lv) : Prop where
  row : w.heap[B]? = some (.cells #[.int .i64 d, .int .u64 sq, .slice p1 l1.length c1, .slice p2 l2.length c2] 77 (0, 0))
  r1 : Rl w p1 c1 l1
  r2 : Rl w p2 c2 l2
  k1 : Lok 1 l1
  k2 : Lok 2 l2
  n1 : l1.length ≤ 64
  n2 : l2.length ≤ 64
  d1 : 1 ≤ d
  d2 : d ≤ 64
  sq : 0 ≤ sq ∧ sq < 18446744073709551616
theorem Pb.on {w w' : World} {B d : Nat} {sq : Int} {p1 : Option Addr} {c1 : Nat} {l1 : List Lv} {p2 : Option Addr} {c2 : Nat} {l2 : List Lv} (h : Pb w B d sq p1 c1 l1 p2 c2 l2) (hb : Below w.heap.size w w') : Pb w' B d sq p1 c1 l1 p2 c2 l2 :=
  ⟨row_on h.row hb, h.r1.on hb, h.r2.on hb, h.k1, h.k2, h.n1, h.n2, h.d1, h.d2, h.sq⟩
/-- what is told. -/
def pubT (d : Nat) (l1 l2 lb ls : List Lv) (le : List Ev) : List Dm := trd le ++ chg 1 l1 (lb.take d) ++ chg 2 l2 (ls.take d)
def pubOk (lb ls : List Lv) (le : List Ev) : Bool := trOk le && (lok 1 lb && lok 2 ls)
theorem publish_no (B d : Nat) (sq : Int) (p1 p2 pb ps pe : Option Addr) (c1 c2 cb cs ce : Nat) (l1 l2 lb ls : List Lv) (le : List Ev) (w : World) (h : Pb w B d sq p1 c1 l1 p2 c2 l2) (hb : Rl w pb cb lb) (hs : Rl w ps cs ls) (he : Re w pe ce le) (hl : le.length * 104 ≤ 140737488355328) (hok : pubOk lb ls le = false) :
    Calls Try.prog 10 #[.pointer (some ⟨B, 0, none⟩), .slice pb lb.length cb, .slice ps ls.length cs, .slice pe le.length ce] w fun e w' => e = .returned (.tuple #[.slice none 0 0, .int .i64 1]) ∧ Below w.heap.size w w' := by
  have CT := hid (trades_any pe ce le w he hl)
  have CL := hid (fun (U : World) (hU : Below w.heap.size w U) => on_b (canBeLevels_any pb ps cb cs lb ls U (hb.on hU) (hs.on hU)) hU)
  have HT := hid (trd_len le)
  unfold pubOk at hok
  cases ht : trOk le with
  | false =>
    rw [ht] at CT
    clear hok ht hl h hb hs he
    go_enter Try.func10, Try.ntmps10
    go_upto_region 2 with (go_at_call 26; with_reducible refine (CT.out).mono ?_; rintro e w1 ⟨hb, ⟨_, rfl⟩ | ⟨h, _⟩⟩; rotate_left; (cases h); have HB := hid hb; clear hb)
    go_wp2
    go_ret2
    exact ⟨rfl, HB.out⟩
  | true =>
    rw [ht] at CT hok
    simp only [Bool.true_and] at hok
    rw [hok] at CL
    clear hok ht hl h hb hs he
    go_enter Try.func10, Try.ntmps10
    go_upto_region 2 with (go_at_call 26; with_reducible refine (CT.out).mono ?_; rintro e w1 ⟨hb, ⟨h, _⟩ | ⟨_, q, dd, rfl, hd⟩⟩; (cases h); have HB := hid hb; clear hb hd)
    go_wp2_with (go_at_call 27; with_reducible refine (CL.out _ HB.out).mono ?_; rintro e w2 ⟨rfl, HB2⟩)
    go_ret2
    exact ⟨rfl, HB2.out⟩
end Go.Proofs.Ytiphgfghdbmlcaa
