/-
  Contracts: internal/strconv.FormatUint to the base 10, strconv.FormatUint, text.Decimal, text.number.
-/
import Derived.Test.YtolabllgnfpfaaaDoorRows
import Derived.Test.YtolabllgnfpfaaaDoorShelf
import Derived.Test.YtolabllgnfpfaaaDoorTxM
import Derived.WalkKit
import Derived.WalkLawsBesides
import Derived.RowKit3
import Derived.Deep.OwnRows
import Derived.Lib.AppendIntMem
import Derived.Lib.AtoiErrMem
import Derived.Stop.LaidErr
namespace Go.Proofs.YtolabllgnfpfaaaDoor
open Go.RowKit Go.Deep Go.Lib Go.Shelf Go.Sort
set_option linter.unusedVariables false
theorem hid {p : Prop} (h : p) : Hid p := h

/-- what the calls read of the package-level variables. -/
structure Lay (w : World) : Prop where
  pow : Lib.TabIs Tryd.prog w "internal/strconv.uint64pow10" .u64 Lib.pow10Tab
/-- .. and the two errors. -/
structure LayE (w : World) : Prop where
  lay : Lay w
  syn : ∃ tp p, w.var? Tryd.prog "strconv.ErrSyntax" = some #[.iface tp p]
  rng : ∃ tp p, w.var? Tryd.prog "strconv.ErrRange" = some #[.iface tp p]
theorem g0 : Tryd.prog.globalNamed "internal/strconv.uint64pow10" = some 0 := by kernel_rfl
theorem g1 : Tryd.prog.globalNamed "strconv.ErrSyntax" = some 2 := by kernel_rfl
theorem g2 : Tryd.prog.globalNamed "strconv.ErrRange" = some 3 := by kernel_rfl
theorem var_lt {w : World} {n : String} {g : Nat} {cs : Array Value} (hg : Tryd.prog.globalNamed n = some g) (h : w.var? Tryd.prog n = some cs) : g < w.heap.size := by
  unfold World.var? at h
  simp only [hg, Option.bind_some] at h
  rcases Nat.lt_or_ge g w.heap.size with h' | h'
  · exact h'
  · simp [Array.getElem?_eq_none h'] at h
theorem var_below {w w' : World} {n : String} {g B : Nat} {cs : Array Value} (hg : Tryd.prog.globalNamed n = some g) (hB : g < B) (hb : Below B w w') (h : w.var? Tryd.prog n = some cs) : w'.var? Tryd.prog n = some cs := by
  unfold World.var? at h ⊢
  simp only [hg, Option.bind_some] at h ⊢
  rw [hb.block g hB]
  exact h
theorem Lay.lt {w : World} (h : Lay w) : 1 ≤ w.heap.size := var_lt g0 h.pow
theorem Lay.onB {w w' : World} {B : Nat} (h : Lay w) (hB : 1 ≤ B) (hb : Below B w w') : Lay w' := ⟨var_below g0 (by omega) hb h.pow⟩
theorem Lay.on {w w' : World} (h : Lay w) (hb : Below w.heap.size w w') : Lay w' := h.onB h.lt hb
theorem Lay.alloc {w : World} (h : Lay w) (o : Obj) : Lay (w.alloc o) := ⟨var?_alloc h.pow⟩
theorem LayE.lt {w : World} (h : LayE w) : 4 ≤ w.heap.size := by
  obtain ⟨tp, p, h2⟩ := h.rng
  obtain ⟨tq, q, h3⟩ := h.syn
  have k1 := var_lt g2 h2
  have k2 := var_lt g1 h3
  have k3 := h.lay.lt
  omega
theorem LayE.onB {w w' : World} {B : Nat} (h : LayE w) (hB : 4 ≤ B) (hb : Below B w w') : LayE w' := by
  obtain ⟨t1, p1, h1⟩ := h.syn
  obtain ⟨t2, p2, h2⟩ := h.rng
  exact ⟨h.lay.onB (by omega) hb, ⟨t1, p1, var_below g1 (by omega) hb h1⟩, ⟨t2, p2, var_below g2 (by omega) hb h2⟩⟩
theorem LayE.on {w w' : World} (h : LayE w) (hb : Below w.heap.size w w') : LayE w' := h.onB h.lt hb
theorem LayE.alloc {w : World} (h : LayE w) (o : Obj) : LayE (w.alloc o) := by
  obtain ⟨t1, p1, h1⟩ := h.syn
  obtain ⟨t2, p2, h2⟩ := h.rng
  exact ⟨h.lay.alloc o, ⟨t1, p1, var?_alloc h1⟩, ⟨t2, p2, var?_alloc h2⟩⟩

set_option maxHeartbeats 6400000 in
set_option maxRecDepth 100000 in
theorem fmtu_in (u : Nat) (hu64 : u < 18446744073709551616) (w : World) (hL : Lay w) :
    Calls Tryd.prog 52 #[.int .u64 u, .int .i64 10] w fun e w' => e = .returned (.string ⟨(Lib.decDigits u).toArray⟩) ∧ Below w.heap.size w w' := by
  by_cases hs : u < 100
  · have hcv : (convert 69 3 (.int .u64 (u : Int))).run Tryd.prog w = .ok (.int .i64 (u : Int)) w := by
      first | (go_simp; done) | (go_simp; congr 2; rw [IntKind.wrap_i64]; omega)
    go_enter Tryd.func52, Tryd.ntmps52
    go_wp2_with (go_at_call 55; refine (Tryd.internal_strconv_small u hs _).mono ?_; rintro e w' ⟨rfl, rfl⟩)
    go_ret
    exact ⟨rfl, Below.refl _ _⟩
  · have hu1 : 1 ≤ u := by omega
    have hnd20 : Lib.nDigits u ≤ 20 := Lib.nDigits_le20 u hu64
    have hal : Tryd.prog.arrayLen 97 = 24 := by kernel_rfl
    have hsl1 : ∀ W, (Instr.sliceAt 97 (.pointer (some ⟨w.heap.size, 0, none⟩)) none (some (.int .i64 (Lib.nDigits u : Int))) none).run Tryd.prog W = .ok (.slice (some ⟨w.heap.size, 0, none⟩) (Lib.nDigits u) 24) W := fun W => by
      rw [run_sliceAt_array_h W 97 ⟨w.heap.size, 0, none⟩ (by simp [Program.arrayLen, Program.elem, Tryd.underlying97]) .i64 (Lib.nDigits u : Int) (by omega) (by rw [hal]; omega)]
      go_simp
    have hH0 : Holds (fun (b : UInt8) => Value.int .u8 (b.toNat : Int)) (w.alloc (.cells Lib.zeros24 97)) w.heap.size 0 (Array.replicate (Lib.nDigits u) 0) := by
      intro j hj
      have hj' : j < Lib.nDigits u := by simpa using hj
      refine ⟨?_, World.frozen?_alloc_new _ _ _ _⟩
      rw [World.cell?_alloc_new, Lib.zeros24_at _ (by omega), getElem!_pos _ j hj]
      simp
    have hfmt := Tryd.internal_strconv_formatBase10 w.heap.size 0 24 u (Array.replicate (Lib.nDigits u) 0) (w.alloc (.cells Lib.zeros24 97)) hH0 (by rw [Array.size_replicate]; exact Lib.lt_pow_nDigits u) hu64 (by rw [Array.size_replicate]; omega)
    rw [Array.size_replicate] at hfmt
    have HH0 := Lib.hid hH0
    have HL := hid hL
    clear hH0 hal hL
    go_enter Tryd.func52, Tryd.ntmps52
    go_wp2_with (first
      | (go_at_call 56; refine (Tryd.internal_strconv_numDigits u hu1 hu64 _ (Lib.tabIs_alloc HL.out.pow _)).mono ?_; rintro e w' ⟨rfl, rfl⟩))
    go_at_call 57
    refine hfmt.mono ?_
    rintro e w' ⟨rfl, k, v', dk, rfl, hF⟩
    have hcv : (convert 26 9 (.slice (some ⟨w.heap.size, 0, none⟩) (Lib.nDigits u) 24)).run Tryd.prog ((putRow (fun (b : UInt8) => Value.int .u8 (b.toNat : Int)) (w.alloc (.cells Lib.zeros24 97)) w.heap.size 0 dk).drewN k) = .ok (.string ⟨(Lib.decDigits u).toArray⟩) ((putRow (fun (b : UInt8) => Value.int .u8 (b.toNat : Int)) (w.alloc (.cells Lib.zeros24 97)) w.heap.size 0 dk).drewN k) := by
      have h := run_convert_bytes_back (P := Tryd.prog) ((putRow (fun (b : UInt8) => Value.int .u8 (b.toNat : Int)) (w.alloc (.cells Lib.zeros24 97)) w.heap.size 0 dk).drewN k) 26 9 5 ⟨w.heap.size, 0, none⟩ 24 (Lib.decDigits u) Tryd.underlying26 Tryd.underlying5 Tryd.underlying9 (fun j hj => by
        rw [Lib.row_is_numeral hF j hj, Lib.add_plain, World.cell?_drewN]
        exact cell?_putRow (fun (b : UInt8) => Value.int .u8 (b.toNat : Int)) _ w.heap.size 0 _ dk HH0.out (by rw [hF.size, Array.size_replicate]) j (by rw [hF.size]; rw [Lib.decDigits_length] at hj; exact hj))
      rw [Lib.decDigits_length] at h
      exact h
    go_wp2
    go_ret
    obtain ⟨os, eo⟩ : ∃ os, (putRow (fun (b : UInt8) => Value.int .u8 (b.toNat : Int)) (w.alloc (.cells Lib.zeros24 97)) w.heap.size 0 dk).drewN k = grow (w.drewN k) os := by
      rw [alloc_eq_grow]
      obtain ⟨os', _, e⟩ := putRow_grow_new (fun (b : UInt8) => Value.int .u8 (b.toNat : Int)) w #[.cells Lib.zeros24 97] w.heap.size 0 dk (Nat.le_refl _)
      exact ⟨os', by rw [e]; rfl⟩
    exact ⟨rfl, by rw [eo]; exact Lib.below_grow _ _ (Nat.le_refl _) k os⟩

theorem fmtu (u : Nat) (hu64 : u < 18446744073709551616) (w : World) (hL : Lay w) :
    Calls Tryd.prog 42 #[.int .u64 u, .int .i64 10] w fun e w' => e = .returned (.string ⟨(Lib.decDigits u).toArray⟩) ∧ Below w.heap.size w w' := by
  have HL := hid hL
  clear hL
  go_enter Tryd.func42, Tryd.ntmps42
  go_wp2_with (go_at_call 52; refine (fmtu_in u hu64 _ HL.out).mono ?_; rintro e w' ⟨rfl, hb⟩)
  go_ret
  exact ⟨rfl, hb⟩
theorem decimal_any (u : Nat) (hu64 : u < 18446744073709551616) (w : World) (hL : Lay w) :
    Calls Tryd.prog 26 #[.int .u64 u] w fun e w' => e = .returned (.string ⟨(Lib.decDigits u).toArray⟩) ∧ Below w.heap.size w w' := by
  have HL := hid hL
  clear hL
  go_enter Tryd.func26, Tryd.ntmps26
  go_wp2_with (go_at_call 42; refine (fmtu u hu64 _ HL.out).mono ?_; rintro e w' ⟨rfl, hb⟩)
  go_ret
  exact ⟨rfl, hb⟩

theorem bw_below {w w1 : World} {T : TypeId} {s : ByteArray} (h : w1 = w ∨ w1 = Lib.bytesWorld w T s) : Below w.heap.size w w1 := by
  rcases h with h | h
  · rw [h]; exact Below.refl _ _
  · rw [h]; exact Lib.bytesWorld_below _ _ _
theorem str_ne {a b : List UInt8} (h : a ≠ b) : (⟨a.toArray⟩ : ByteArray) ≠ ⟨b.toArray⟩ := by
  intro e
  injection e with e
  exact h (by simpa using congrArg Array.toList e)

set_option maxHeartbeats 2000000 in
set_option maxRecDepth 100000 in
/-- text.number. -/
theorem number_any (l : List UInt8) (hs : l.length ≤ 281474976710656) (w : World) (hL : LayE w) :
    Calls Tryd.prog 45 #[.string ⟨l.toArray⟩] w fun e w' => e = .returned (.tuple #[.int .u64 (((num l).getD 0 : Nat) : Int), .bool (num l).isSome]) ∧ Below w.heap.size w w' := by
  have HL := hid hL
  have hsz : (⟨l.toArray⟩ : ByteArray).size = l.length := by simp [ByteArray.size]
  have hdl : (⟨l.toArray⟩ : ByteArray).data.toList = l := by simp
  clear hL
  cases h : parseUintB 64 l with
  | ok u =>
    have hu : u < 18446744073709551616 := by have := Lib.parseUintB_le h; omega
    have hP := Tryd.strconv_ParseUint_10_at64_ok ⟨l.toArray⟩ (by omega) u (by rw [hdl]; exact h) w
    have HP := hid hP
    clear hP
    by_cases he : decDigits u = l
    · have hn : num l = some u := by unfold num; rw [h]; simp [he]
      rw [hn]
      have HE := hid he
      clear hn he h hdl hsz
      go_enter Tryd.func45, Tryd.ntmps45
      go_wp2_with (first | (go_at_call 53; refine HP.out.mono ?_; rintro e w1 ⟨rfl, hb⟩; have HB := hid (bw_below hb); clear hb) | (go_at_call 26; refine (decimal_any u hu w1 (HL.out.on HB.out).lay).mono ?_; rintro e w2 ⟨rfl, hb2⟩; have HB2 := hid hb2; clear hb2; rw [HE.out]))
      all_goals (go_ret2; exact ⟨by simp, HB.out.trans (HB2.out.mono HB.out.size)⟩)
    · have hn : num l = none := by unfold num; rw [h]; simp [he]
      rw [hn]
      have hne : (decDigits u == l) = false := by simpa using he
      clear hn he h hdl hsz
      go_enter Tryd.func45, Tryd.ntmps45
      go_wp2_with (first | (go_at_call 53; refine HP.out.mono ?_; rintro e w1 ⟨rfl, hb⟩; have HB := hid (bw_below hb); clear hb) | (go_at_call 26; refine (decimal_any u hu w1 (HL.out.on HB.out).lay).mono ?_; rintro e w2 ⟨rfl, hb2⟩; have HB2 := hid hb2; clear hb2))
      all_goals (go_ret2; exact ⟨by simp, HB.out.trans (HB2.out.mono HB.out.size)⟩)
  | «syntax» =>
    have hn : num l = none := by unfold num; rw [h]
    rw [hn]
    obtain ⟨tp, p, hv⟩ := HL.out.syn
    have HP := hid (Tryd.strconv_ParseUint_10_at64_syntax_var ⟨l.toArray⟩ (by omega) (by rw [hdl]; exact h) tp p w hv)
    clear hn h hdl hsz hv
    go_enter Tryd.func45, Tryd.ntmps45
    go_wp2_with (go_at_call 53; refine HP.out.mono ?_; rintro e w1 ⟨N, rfl, -, -, hb⟩)
    all_goals (go_ret2; exact ⟨by simp, hb⟩)
  | range =>
    have hn : num l = none := by unfold num; rw [h]
    rw [hn]
    obtain ⟨tp, p, hv⟩ := HL.out.rng
    have HP := hid (Tryd.strconv_ParseUint_10_at64_range_var ⟨l.toArray⟩ (by omega) (by rw [hdl]; exact h) tp p w hv)
    clear hn h hdl hsz hv
    go_enter Tryd.func45, Tryd.ntmps45
    go_wp2_with (go_at_call 53; refine HP.out.mono ?_; rintro e w1 ⟨N, rfl, -, -, hb⟩)
    all_goals (go_ret2; exact ⟨by simp, hb⟩)
end Go.Proofs.YtolabllgnfpfaaaDoor
