/-
  What an order that comes meets.
-/
import Derived.Test.YthdikkchblmebaaRuI
import Derived.Deep.DrawnRows
namespace Go.Proofs.Ythdikkchblmebaa
open Go.RowKit Go.Deep Go.Shelf
set_option linter.unusedVariables false
set_option linter.unusedSimpArgs false
set_option maxHeartbeats 4000000
set_option maxRecDepth 100000
attribute [local go_sem ↓] Go.wp_at_zero Go.wp_at_succ
/-- an order that comes. -/
def crow (o : Or) (s q : Int) : Array Value := #[.int .u64 o.id, .int .u32 o.mb, .int .i64 o.ty, .int .i64 o.pr, .int .u64 o.vi, .int .u64 o.hi, .int .u64 o.pk, .int .i64 s, .int .u64 q]
def rch (o : Or) (s p : Int) : Bool := o.ty == 2 || !btt s p o.pr
/-- a side's orders. -/
def Bs.sl (b : Bs) (s : Int) : LO := if s = 1 then b.l1 else b.l2
def Bs.sp (b : Bs) (s : Int) : Option Addr := if s = 1 then b.p1 else b.p2
def Bs.sc (b : Bs) (s : Int) : Nat := if s = 1 then b.c1 else b.c2
theorem Bm.sli {w : World} {B : Nat} {b : Bs} (h : Bm w B b) (s : Int) : Li w (b.sp s) (b.sc s) (b.sl s) := by
  unfold Bs.sp Bs.sc Bs.sl
  split
  · exact h.li1
  · exact h.li2
def mtl (o : Or) (s : Int) : LO → Bool
  | [] => false
  | x :: _ => rch o s x.2.pr
def mts (b : Bs) (o : Or) (s : Int) : Bool := mtl o s (b.sl (oth s))
end Go.Proofs.Ythdikkchblmebaa
