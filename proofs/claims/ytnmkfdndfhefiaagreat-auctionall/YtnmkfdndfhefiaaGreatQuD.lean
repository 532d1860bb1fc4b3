/-
  The document's Enter.
-/
import Derived.Test.YtnmkfdndfhefiaaGreatQuC
namespace Go.Proofs.YtnmkfdndfhefiaaGreat
open Go.RowKit Go.Deep Go.Shelf
set_option linter.unusedVariables false
set_option linter.unusedSimpArgs false
set_option maxHeartbeats 16000000
set_option maxRecDepth 100000
/-- what the document refuses an interest for. -/
def rfd (m : Int) (L : List It) (x : It) : Int := if ck x ≠ 0 then ck x else if x.id = 0 ∨ hsi x.id L = true then 97 else if m ≤ (L.length : Int) then 98 else 0
theorem hsi_perm {a b : List It} (h : a.Perm b) (id : Int) : hsi id a = hsi id b := by
  unfold hsi
  rw [Bool.eq_iff_iff, List.any_eq_true, List.any_eq_true]
  exact ⟨fun ⟨x, hx, e⟩ => ⟨x, h.mem_iff.1 hx, e⟩, fun ⟨x, hx, e⟩ => ⟨x, h.mem_iff.2 hx, e⟩⟩
theorem rfd_rfi {m : Int} {L : List It} {x : It} (h : Lk L) : rfi m (iso 1 L) (iso 2 L) x = rfd m L x := by
  have e : (hsi x.id (iso 1 L) || hsi x.id (iso 2 L)) = hsi x.id L := by
    unfold hsi
    rw [Bool.eq_iff_iff, Bool.or_eq_true, List.any_eq_true, List.any_eq_true, List.any_eq_true]
    constructor
    · rintro (⟨y, hy, e⟩ | ⟨y, hy, e⟩)
      · exact ⟨y, (mem_iso.1 hy).1, e⟩
      · exact ⟨y, (mem_iso.1 hy).1, e⟩
    · rintro ⟨y, hy, e⟩
      rcases (h.ok y hy).2 with hs | hs
      · exact .inl ⟨y, mem_iso.2 ⟨hy, hs⟩, e⟩
      · exact .inr ⟨y, mem_iso.2 ⟨hy, hs⟩, e⟩
  have hl : ((iso 1 L).length : Int) + ((iso 2 L).length : Int) = (L.length : Int) := by have := h.lens; omega
  unfold rfi rfd
  rw [e, hl]
/-- what stands at the document's Enter. -/
structure Et0 (w W : World) (R : Nat) (r m : Int) (p : Option Addr) (n c : Nat) (x : It) : Prop where
  be : Below w.heap.size w W
  a : W.heap[R]? = some (.cells #[.int .i64 r, .int .i64 m, .slice p n c] 29 (0, 0))
  b : W.heap[R + 1]? = some (.cells #[.int .u64 x.id, .int .u32 x.mb, .int .i64 x.sd, .int .i64 x.ty, .int .i64 x.pr, .int .u64 x.qt] 35 (0, 0))
  z : W.heap[R + 2]? = some (.cells #[.int .i64 0, .int .i64 0, .slice none 0 0] 29 (0, 0))
theorem Et0.mk' {w W : World} {R : Nat} {r m : Int} {p : Option Addr} {n c : Nat} {x : It} (hW : ((w.alloc (.cells #[.int .i64 r, .int .i64 m, .slice p n c] 29)).alloc (.cells #[.int .u64 x.id, .int .u32 x.mb, .int .i64 x.sd, .int .i64 x.ty, .int .i64 x.pr, .int .u64 x.qt] 35)).alloc (.cells #[.int .i64 0, .int .i64 0, .slice none 0 0] 29) = W) (hR : w.heap.size = R) : Et0 w W R r m p n c x := by
  rw [← hW, ← hR]
  refine ⟨btr (btr (ball _ _) (ball _ _)) (ball _ _), row_on (row_on (World.alloc_heap_new _ _) (ball _ _)) (ball _ _), ?_, ?_⟩
  · have := row_on (World.alloc_heap_new (w.alloc (.cells #[.int .i64 r, .int .i64 m, .slice p n c] 29)) (.cells #[.int .u64 x.id, .int .u32 x.mb, .int .i64 x.sd, .int .i64 x.ty, .int .i64 x.pr, .int .u64 x.qt] 35)) (ball _ (.cells #[.int .i64 0, .int .i64 0, .slice none 0 0] 29))
    simpa using this
  · have := World.alloc_heap_new ((w.alloc (.cells #[.int .i64 r, .int .i64 m, .slice p n c] 29)).alloc (.cells #[.int .u64 x.id, .int .u32 x.mb, .int .i64 x.sd, .int .i64 x.ty, .int .i64 x.pr, .int .u64 x.qt] 35)) (.cells #[.int .i64 0, .int .i64 0, .slice none 0 0] 29)
    simpa using this
theorem Et0.on {w W U : World} {R : Nat} {r m : Int} {p : Option Addr} {n c : Nat} {x : It} (h : Et0 w W R r m p n c x) (hb : Below W.heap.size W U) : Et0 w U R r m p n c x := ⟨btr h.be hb, row_on h.a hb, row_on h.b hb, row_on h.z hb⟩
theorem infoRc {a b : Value} {v : Value} : (Tryz.prog.info? 29).map (·.size) = some (#[a, b, v] : Array Value).size := infoR
theorem re92 (r m : Int) (p : Option Addr) (c : Nat) (L : List It) (x : It) (w : World) (h : Li w p c L) (hn : L.length ≤ 4096) (s1 : (x.sd != 1) = true) (s2 : (x.sd != 2) = true) (he : rfd m L x = 92) :
    Calls Tryz.prog 10 #[.agg #[.int .i64 r, .int .i64 m, .slice p L.length c], .agg #[.int .u64 x.id, .int .u32 x.mb, .int .i64 x.sd, .int .i64 x.ty, .int .i64 x.pr, .int .u64 x.qt]] w fun e w' => e = .returned (.tuple #[.agg #[.int .i64 r, .int .i64 m, .slice p L.length c], .int .i64 (rfd m L x)]) ∧ Below w.heap.size w w' := by
  rw [he]
  clear he
  have CT := hid (fun U => tick_any x.pr U)
  have CP := hid (fun (U : World) (hU : Below w.heap.size w U) => rplace_any r m x.id p c L U (h.on hU) hn)
  obtain ⟨n, hnn⟩ : ∃ n, L.length = n := ⟨_, rfl⟩
  rw [hnn] at hn CP ⊢
  obtain ⟨R, hR⟩ : ∃ R, w.heap.size = R := ⟨_, rfl⟩
  obtain ⟨W, hW⟩ : ∃ W, ((w.alloc (.cells #[.int .i64 r, .int .i64 m, .slice p n c] 29)).alloc (.cells #[.int .u64 x.id, .int .u32 x.mb, .int .i64 x.sd, .int .i64 x.ty, .int .i64 x.pr, .int .u64 x.qt] 35)).alloc (.cells #[.int .i64 0, .int .i64 0, .slice none 0 0] 29) = W := ⟨_, rfl⟩
  have HE := hid (Et0.mk' hW hR)
  have HW := hid hW
  have HRR := hid hR
  obtain ⟨k0, k1, k2⟩ := row3 HE.out.a
  obtain ⟨i0, i1, i2, i3, i4, i5⟩ := row6 HE.out.b
  have CPW := hid (CP.out W HE.out.be)
  clear hW hR h hnn CP
  go_enter Tryz.func10, Tryz.ntmps10
  go_upto_region 1 with fail
  rw [HW.out, HRR.out]
  go_upto_region 2 with fail
  have HEU := HE
  have AS := hid (show (#[.int .i64 0, .int .i64 0, .slice none 0 0] : Array Value).size = (#[.int .i64 r, .int .i64 m, .slice p n c] : Array Value).size from rfl)
  have AA := hid (show (#[.int .i64 r, .int .i64 m, .slice p n c] : Array Value).all (·.oneCell') = true from by simp [Value.oneCell'])
  go_wp2_with (refine wpList_store_row (by rfl) 29 (.tmp 4) (.tmp 15) (by rfl) (R + 2) #[.int .i64 r, .int .i64 m, .slice p n c] (by rfl) (by rfl) 29 _ HEU.out.z infoRc AS.out AA.out ?_)
  refine bodyPost_ret (res_ct (fn := Tryz.f10) Tryz.results10 _ _ (R + 2) 29 #[.int .i64 r, .int .i64 m, .slice p n c] (0, 0) _ (.int .i64 92) (by rfl) (by rfl) (setRow_heap _ _ _ _ 29 (0, 0) HEU.out.z) Tryz.underlying29 rfl infoR) rfl ⟨rfl, ?_⟩
  exact setRow_below HEU.out.be (by have := HRR.out; omega)
theorem re93_1 (r m : Int) (p : Option Addr) (c : Nat) (L : List It) (x : It) (w : World) (h : Li w p c L) (hn : L.length ≤ 4096) (s1 : (x.sd != 1) = false) (y1 : (x.ty != 1) = true) (y2 : (x.ty != 2) = true) (he : rfd m L x = 93) :
    Calls Tryz.prog 10 #[.agg #[.int .i64 r, .int .i64 m, .slice p L.length c], .agg #[.int .u64 x.id, .int .u32 x.mb, .int .i64 x.sd, .int .i64 x.ty, .int .i64 x.pr, .int .u64 x.qt]] w fun e w' => e = .returned (.tuple #[.agg #[.int .i64 r, .int .i64 m, .slice p L.length c], .int .i64 (rfd m L x)]) ∧ Below w.heap.size w w' := by
  rw [he]
  clear he
  have CT := hid (fun U => tick_any x.pr U)
  have CP := hid (fun (U : World) (hU : Below w.heap.size w U) => rplace_any r m x.id p c L U (h.on hU) hn)
  obtain ⟨n, hnn⟩ : ∃ n, L.length = n := ⟨_, rfl⟩
  rw [hnn] at hn CP ⊢
  obtain ⟨R, hR⟩ : ∃ R, w.heap.size = R := ⟨_, rfl⟩
  obtain ⟨W, hW⟩ : ∃ W, ((w.alloc (.cells #[.int .i64 r, .int .i64 m, .slice p n c] 29)).alloc (.cells #[.int .u64 x.id, .int .u32 x.mb, .int .i64 x.sd, .int .i64 x.ty, .int .i64 x.pr, .int .u64 x.qt] 35)).alloc (.cells #[.int .i64 0, .int .i64 0, .slice none 0 0] 29) = W := ⟨_, rfl⟩
  have HE := hid (Et0.mk' hW hR)
  have HW := hid hW
  have HRR := hid hR
  obtain ⟨k0, k1, k2⟩ := row3 HE.out.a
  obtain ⟨i0, i1, i2, i3, i4, i5⟩ := row6 HE.out.b
  have CPW := hid (CP.out W HE.out.be)
  clear hW hR h hnn CP
  go_enter Tryz.func10, Tryz.ntmps10
  go_upto_region 1 with fail
  rw [HW.out, HRR.out]
  go_upto_region 4 with fail
  have HEU := HE
  have AS := hid (show (#[.int .i64 0, .int .i64 0, .slice none 0 0] : Array Value).size = (#[.int .i64 r, .int .i64 m, .slice p n c] : Array Value).size from rfl)
  have AA := hid (show (#[.int .i64 r, .int .i64 m, .slice p n c] : Array Value).all (·.oneCell') = true from by simp [Value.oneCell'])
  go_wp2_with (refine wpList_store_row (by rfl) 29 (.tmp 4) (.tmp 25) (by rfl) (R + 2) #[.int .i64 r, .int .i64 m, .slice p n c] (by rfl) (by rfl) 29 _ HEU.out.z infoRc AS.out AA.out ?_)
  refine bodyPost_ret (res_ct (fn := Tryz.f10) Tryz.results10 _ _ (R + 2) 29 #[.int .i64 r, .int .i64 m, .slice p n c] (0, 0) _ (.int .i64 93) (by rfl) (by rfl) (setRow_heap _ _ _ _ 29 (0, 0) HEU.out.z) Tryz.underlying29 rfl infoR) rfl ⟨rfl, ?_⟩
  exact setRow_below HEU.out.be (by have := HRR.out; omega)
theorem re94a_11 (r m : Int) (p : Option Addr) (c : Nat) (L : List It) (x : It) (w : World) (h : Li w p c L) (hn : L.length ≤ 4096) (s1 : (x.sd != 1) = false) (y1 : (x.ty != 1) = false) (y3 : (x.ty == 2) = false) (hp : isP x.pr = false) (he : rfd m L x = 94) :
    Calls Tryz.prog 10 #[.agg #[.int .i64 r, .int .i64 m, .slice p L.length c], .agg #[.int .u64 x.id, .int .u32 x.mb, .int .i64 x.sd, .int .i64 x.ty, .int .i64 x.pr, .int .u64 x.qt]] w fun e w' => e = .returned (.tuple #[.agg #[.int .i64 r, .int .i64 m, .slice p L.length c], .int .i64 (rfd m L x)]) ∧ Below w.heap.size w w' := by
  rw [he]
  clear he
  have CT := hid (fun U => tick_any x.pr U)
  have CP := hid (fun (U : World) (hU : Below w.heap.size w U) => rplace_any r m x.id p c L U (h.on hU) hn)
  obtain ⟨n, hnn⟩ : ∃ n, L.length = n := ⟨_, rfl⟩
  rw [hnn] at hn CP ⊢
  rw [hp] at CT
  clear hp
  obtain ⟨R, hR⟩ : ∃ R, w.heap.size = R := ⟨_, rfl⟩
  obtain ⟨W, hW⟩ : ∃ W, ((w.alloc (.cells #[.int .i64 r, .int .i64 m, .slice p n c] 29)).alloc (.cells #[.int .u64 x.id, .int .u32 x.mb, .int .i64 x.sd, .int .i64 x.ty, .int .i64 x.pr, .int .u64 x.qt] 35)).alloc (.cells #[.int .i64 0, .int .i64 0, .slice none 0 0] 29) = W := ⟨_, rfl⟩
  have HE := hid (Et0.mk' hW hR)
  have HW := hid hW
  have HRR := hid hR
  obtain ⟨k0, k1, k2⟩ := row3 HE.out.a
  obtain ⟨i0, i1, i2, i3, i4, i5⟩ := row6 HE.out.b
  have CPW := hid (CP.out W HE.out.be)
  clear hW hR h hnn CP
  go_enter Tryz.func10, Tryz.ntmps10
  go_upto_region 1 with fail
  rw [HW.out, HRR.out]
  go_upto_region 6 with (go_at_call 27; with_reducible refine (CT.out _).mono ?_; rintro e u1 ⟨rfl, rfl⟩)
  have HEU := HE
  have AS := hid (show (#[.int .i64 0, .int .i64 0, .slice none 0 0] : Array Value).size = (#[.int .i64 r, .int .i64 m, .slice p n c] : Array Value).size from rfl)
  have AA := hid (show (#[.int .i64 r, .int .i64 m, .slice p n c] : Array Value).all (·.oneCell') = true from by simp [Value.oneCell'])
  go_wp2_with (refine wpList_store_row (by rfl) 29 (.tmp 4) (.tmp 41) (by rfl) (R + 2) #[.int .i64 r, .int .i64 m, .slice p n c] (by rfl) (by rfl) 29 _ HEU.out.z infoRc AS.out AA.out ?_)
  refine bodyPost_ret (res_ct (fn := Tryz.f10) Tryz.results10 _ _ (R + 2) 29 #[.int .i64 r, .int .i64 m, .slice p n c] (0, 0) _ (.int .i64 94) (by rfl) (by rfl) (setRow_heap _ _ _ _ 29 (0, 0) HEU.out.z) Tryz.underlying29 rfl infoR) rfl ⟨rfl, ?_⟩
  exact setRow_below HEU.out.be (by have := HRR.out; omega)
theorem re95a_11 (r m : Int) (p : Option Addr) (c : Nat) (L : List It) (x : It) (w : World) (h : Li w p c L) (hn : L.length ≤ 4096) (s1 : (x.sd != 1) = false) (y1 : (x.ty != 1) = false) (y3 : (x.ty == 2) = false) (hp : isP x.pr = true) (d1 : decide (x.qt < 1) = true) (he : rfd m L x = 95) :
    Calls Tryz.prog 10 #[.agg #[.int .i64 r, .int .i64 m, .slice p L.length c], .agg #[.int .u64 x.id, .int .u32 x.mb, .int .i64 x.sd, .int .i64 x.ty, .int .i64 x.pr, .int .u64 x.qt]] w fun e w' => e = .returned (.tuple #[.agg #[.int .i64 r, .int .i64 m, .slice p L.length c], .int .i64 (rfd m L x)]) ∧ Below w.heap.size w w' := by
  rw [he]
  clear he
  have CT := hid (fun U => tick_any x.pr U)
  have CP := hid (fun (U : World) (hU : Below w.heap.size w U) => rplace_any r m x.id p c L U (h.on hU) hn)
  obtain ⟨n, hnn⟩ : ∃ n, L.length = n := ⟨_, rfl⟩
  rw [hnn] at hn CP ⊢
  rw [hp] at CT
  clear hp
  obtain ⟨R, hR⟩ : ∃ R, w.heap.size = R := ⟨_, rfl⟩
  obtain ⟨W, hW⟩ : ∃ W, ((w.alloc (.cells #[.int .i64 r, .int .i64 m, .slice p n c] 29)).alloc (.cells #[.int .u64 x.id, .int .u32 x.mb, .int .i64 x.sd, .int .i64 x.ty, .int .i64 x.pr, .int .u64 x.qt] 35)).alloc (.cells #[.int .i64 0, .int .i64 0, .slice none 0 0] 29) = W := ⟨_, rfl⟩
  have HE := hid (Et0.mk' hW hR)
  have HW := hid hW
  have HRR := hid hR
  obtain ⟨k0, k1, k2⟩ := row3 HE.out.a
  obtain ⟨i0, i1, i2, i3, i4, i5⟩ := row6 HE.out.b
  have CPW := hid (CP.out W HE.out.be)
  clear hW hR h hnn CP
  go_enter Tryz.func10, Tryz.ntmps10
  go_upto_region 1 with fail
  rw [HW.out, HRR.out]
  go_upto_region 8 with (go_at_call 27; with_reducible refine (CT.out _).mono ?_; rintro e u1 ⟨rfl, rfl⟩)
  have HEU := HE
  have AS := hid (show (#[.int .i64 0, .int .i64 0, .slice none 0 0] : Array Value).size = (#[.int .i64 r, .int .i64 m, .slice p n c] : Array Value).size from rfl)
  have AA := hid (show (#[.int .i64 r, .int .i64 m, .slice p n c] : Array Value).all (·.oneCell') = true from by simp [Value.oneCell'])
  go_wp2_with (refine wpList_store_row (by rfl) 29 (.tmp 4) (.tmp 51) (by rfl) (R + 2) #[.int .i64 r, .int .i64 m, .slice p n c] (by rfl) (by rfl) 29 _ HEU.out.z infoRc AS.out AA.out ?_)
  refine bodyPost_ret (res_ct (fn := Tryz.f10) Tryz.results10 _ _ (R + 2) 29 #[.int .i64 r, .int .i64 m, .slice p n c] (0, 0) _ (.int .i64 95) (by rfl) (by rfl) (setRow_heap _ _ _ _ 29 (0, 0) HEU.out.z) Tryz.underlying29 rfl infoR) rfl ⟨rfl, ?_⟩
  exact setRow_below HEU.out.be (by have := HRR.out; omega)
theorem re95b_11 (r m : Int) (p : Option Addr) (c : Nat) (L : List It) (x : It) (w : World) (h : Li w p c L) (hn : L.length ≤ 4096) (s1 : (x.sd != 1) = false) (y1 : (x.ty != 1) = false) (y3 : (x.ty == 2) = false) (hp : isP x.pr = true) (d1 : decide (x.qt < 1) = false) (d2 : decide (4294967295 < x.qt) = true) (he : rfd m L x = 95) :
    Calls Tryz.prog 10 #[.agg #[.int .i64 r, .int .i64 m, .slice p L.length c], .agg #[.int .u64 x.id, .int .u32 x.mb, .int .i64 x.sd, .int .i64 x.ty, .int .i64 x.pr, .int .u64 x.qt]] w fun e w' => e = .returned (.tuple #[.agg #[.int .i64 r, .int .i64 m, .slice p L.length c], .int .i64 (rfd m L x)]) ∧ Below w.heap.size w w' := by
  rw [he]
  clear he
  have CT := hid (fun U => tick_any x.pr U)
  have CP := hid (fun (U : World) (hU : Below w.heap.size w U) => rplace_any r m x.id p c L U (h.on hU) hn)
  obtain ⟨n, hnn⟩ : ∃ n, L.length = n := ⟨_, rfl⟩
  rw [hnn] at hn CP ⊢
  rw [hp] at CT
  clear hp
  obtain ⟨R, hR⟩ : ∃ R, w.heap.size = R := ⟨_, rfl⟩
  obtain ⟨W, hW⟩ : ∃ W, ((w.alloc (.cells #[.int .i64 r, .int .i64 m, .slice p n c] 29)).alloc (.cells #[.int .u64 x.id, .int .u32 x.mb, .int .i64 x.sd, .int .i64 x.ty, .int .i64 x.pr, .int .u64 x.qt] 35)).alloc (.cells #[.int .i64 0, .int .i64 0, .slice none 0 0] 29) = W := ⟨_, rfl⟩
  have HE := hid (Et0.mk' hW hR)
  have HW := hid hW
  have HRR := hid hR
  obtain ⟨k0, k1, k2⟩ := row3 HE.out.a
  obtain ⟨i0, i1, i2, i3, i4, i5⟩ := row6 HE.out.b
  have CPW := hid (CP.out W HE.out.be)
  clear hW hR h hnn CP
  go_enter Tryz.func10, Tryz.ntmps10
  go_upto_region 1 with fail
  rw [HW.out, HRR.out]
  go_upto_region 8 with (go_at_call 27; with_reducible refine (CT.out _).mono ?_; rintro e u1 ⟨rfl, rfl⟩)
  have HEU := HE
  have AS := hid (show (#[.int .i64 0, .int .i64 0, .slice none 0 0] : Array Value).size = (#[.int .i64 r, .int .i64 m, .slice p n c] : Array Value).size from rfl)
  have AA := hid (show (#[.int .i64 r, .int .i64 m, .slice p n c] : Array Value).all (·.oneCell') = true from by simp [Value.oneCell'])
  go_wp2_with (refine wpList_store_row (by rfl) 29 (.tmp 4) (.tmp 51) (by rfl) (R + 2) #[.int .i64 r, .int .i64 m, .slice p n c] (by rfl) (by rfl) 29 _ HEU.out.z infoRc AS.out AA.out ?_)
  refine bodyPost_ret (res_ct (fn := Tryz.f10) Tryz.results10 _ _ (R + 2) 29 #[.int .i64 r, .int .i64 m, .slice p n c] (0, 0) _ (.int .i64 95) (by rfl) (by rfl) (setRow_heap _ _ _ _ 29 (0, 0) HEU.out.z) Tryz.underlying29 rfl infoR) rfl ⟨rfl, ?_⟩
  exact setRow_below HEU.out.be (by have := HRR.out; omega)
theorem re97a_11 (r m : Int) (p : Option Addr) (c : Nat) (L : List It) (x : It) (w : World) (h : Li w p c L) (hn : L.length ≤ 4096) (s1 : (x.sd != 1) = false) (y1 : (x.ty != 1) = false) (y3 : (x.ty == 2) = false) (hp : isP x.pr = true) (d1 : decide (x.qt < 1) = false) (d2 : decide (4294967295 < x.qt) = false) (z1 : (x.id == 0) = true) (he : rfd m L x = 97) :
    Calls Tryz.prog 10 #[.agg #[.int .i64 r, .int .i64 m, .slice p L.length c], .agg #[.int .u64 x.id, .int .u32 x.mb, .int .i64 x.sd, .int .i64 x.ty, .int .i64 x.pr, .int .u64 x.qt]] w fun e w' => e = .returned (.tuple #[.agg #[.int .i64 r, .int .i64 m, .slice p L.length c], .int .i64 (rfd m L x)]) ∧ Below w.heap.size w w' := by
  rw [he]
  clear he
  have CT := hid (fun U => tick_any x.pr U)
  have CP := hid (fun (U : World) (hU : Below w.heap.size w U) => rplace_any r m x.id p c L U (h.on hU) hn)
  obtain ⟨n, hnn⟩ : ∃ n, L.length = n := ⟨_, rfl⟩
  rw [hnn] at hn CP ⊢
  rw [hp] at CT
  clear hp
  obtain ⟨R, hR⟩ : ∃ R, w.heap.size = R := ⟨_, rfl⟩
  obtain ⟨W, hW⟩ : ∃ W, ((w.alloc (.cells #[.int .i64 r, .int .i64 m, .slice p n c] 29)).alloc (.cells #[.int .u64 x.id, .int .u32 x.mb, .int .i64 x.sd, .int .i64 x.ty, .int .i64 x.pr, .int .u64 x.qt] 35)).alloc (.cells #[.int .i64 0, .int .i64 0, .slice none 0 0] 29) = W := ⟨_, rfl⟩
  have HE := hid (Et0.mk' hW hR)
  have HW := hid hW
  have HRR := hid hR
  obtain ⟨k0, k1, k2⟩ := row3 HE.out.a
  obtain ⟨i0, i1, i2, i3, i4, i5⟩ := row6 HE.out.b
  have CPW := hid (CP.out W HE.out.be)
  clear hW hR h hnn CP
  go_enter Tryz.func10, Tryz.ntmps10
  go_upto_region 1 with fail
  rw [HW.out, HRR.out]
  go_upto_region 10 with (first | (go_at_call 27; with_reducible refine (CT.out _).mono ?_; rintro e u1 ⟨rfl, rfl⟩) | (go_at_call 28; with_reducible refine (CPW.out).mono ?_; rintro e v1 ⟨rfl, hb⟩; have V1 := hid hb; obtain ⟨m0, m1, m2⟩ := row3 (HE.out.on hb).a; clear hb))
  have HEU := HE
  have AS := hid (show (#[.int .i64 0, .int .i64 0, .slice none 0 0] : Array Value).size = (#[.int .i64 r, .int .i64 m, .slice p n c] : Array Value).size from rfl)
  have AA := hid (show (#[.int .i64 r, .int .i64 m, .slice p n c] : Array Value).all (·.oneCell') = true from by simp [Value.oneCell'])
  go_wp2_with (refine wpList_store_row (by rfl) 29 (.tmp 4) (.tmp 63) (by rfl) (R + 2) #[.int .i64 r, .int .i64 m, .slice p n c] (by rfl) (by rfl) 29 _ HEU.out.z infoRc AS.out AA.out ?_)
  refine bodyPost_ret (res_ct (fn := Tryz.f10) Tryz.results10 _ _ (R + 2) 29 #[.int .i64 r, .int .i64 m, .slice p n c] (0, 0) _ (.int .i64 97) (by rfl) (by rfl) (setRow_heap _ _ _ _ 29 (0, 0) HEU.out.z) Tryz.underlying29 rfl infoR) rfl ⟨rfl, ?_⟩
  exact setRow_below HEU.out.be (by have := HRR.out; omega)
theorem re97b_11 (r m : Int) (p : Option Addr) (c : Nat) (L : List It) (x : It) (w : World) (h : Li w p c L) (hn : L.length ≤ 4096) (s1 : (x.sd != 1) = false) (y1 : (x.ty != 1) = false) (y3 : (x.ty == 2) = false) (hp : isP x.pr = true) (d1 : decide (x.qt < 1) = false) (d2 : decide (4294967295 < x.qt) = false) (z1 : (x.id == 0) = false) (hf : 0 ≤ fni x.id L) (he : rfd m L x = 97) :
    Calls Tryz.prog 10 #[.agg #[.int .i64 r, .int .i64 m, .slice p L.length c], .agg #[.int .u64 x.id, .int .u32 x.mb, .int .i64 x.sd, .int .i64 x.ty, .int .i64 x.pr, .int .u64 x.qt]] w fun e w' => e = .returned (.tuple #[.agg #[.int .i64 r, .int .i64 m, .slice p L.length c], .int .i64 (rfd m L x)]) ∧ Below w.heap.size w w' := by
  rw [he]
  clear he
  have CT := hid (fun U => tick_any x.pr U)
  have CP := hid (fun (U : World) (hU : Below w.heap.size w U) => rplace_any r m x.id p c L U (h.on hU) hn)
  obtain ⟨n, hnn⟩ : ∃ n, L.length = n := ⟨_, rfl⟩
  rw [hnn] at hn CP ⊢
  obtain ⟨v, hv⟩ : ∃ v, fni x.id L = v := ⟨_, rfl⟩
  rw [hv] at CP hf
  clear hv
  rw [hp] at CT
  clear hp
  have d3 : decide (0 ≤ v) = true := decide_eq_true hf
  obtain ⟨R, hR⟩ : ∃ R, w.heap.size = R := ⟨_, rfl⟩
  obtain ⟨W, hW⟩ : ∃ W, ((w.alloc (.cells #[.int .i64 r, .int .i64 m, .slice p n c] 29)).alloc (.cells #[.int .u64 x.id, .int .u32 x.mb, .int .i64 x.sd, .int .i64 x.ty, .int .i64 x.pr, .int .u64 x.qt] 35)).alloc (.cells #[.int .i64 0, .int .i64 0, .slice none 0 0] 29) = W := ⟨_, rfl⟩
  have HE := hid (Et0.mk' hW hR)
  have HW := hid hW
  have HRR := hid hR
  obtain ⟨k0, k1, k2⟩ := row3 HE.out.a
  obtain ⟨i0, i1, i2, i3, i4, i5⟩ := row6 HE.out.b
  have CPW := hid (CP.out W HE.out.be)
  clear hW hR h hnn CP
  go_enter Tryz.func10, Tryz.ntmps10
  go_upto_region 1 with fail
  rw [HW.out, HRR.out]
  go_upto_region 10 with (first | (go_at_call 27; with_reducible refine (CT.out _).mono ?_; rintro e u1 ⟨rfl, rfl⟩) | (go_at_call 28; with_reducible refine (CPW.out).mono ?_; rintro e v1 ⟨rfl, hb⟩; have V1 := hid hb; obtain ⟨m0, m1, m2⟩ := row3 (HE.out.on hb).a; clear hb))
  have HEU := hid (HE.out.on V1.out)
  have AS := hid (show (#[.int .i64 0, .int .i64 0, .slice none 0 0] : Array Value).size = (#[.int .i64 r, .int .i64 m, .slice p n c] : Array Value).size from rfl)
  have AA := hid (show (#[.int .i64 r, .int .i64 m, .slice p n c] : Array Value).all (·.oneCell') = true from by simp [Value.oneCell'])
  go_wp2_with (refine wpList_store_row (by rfl) 29 (.tmp 4) (.tmp 63) (by rfl) (R + 2) #[.int .i64 r, .int .i64 m, .slice p n c] (by rfl) (by rfl) 29 _ HEU.out.z infoRc AS.out AA.out ?_)
  refine bodyPost_ret (res_ct (fn := Tryz.f10) Tryz.results10 _ _ (R + 2) 29 #[.int .i64 r, .int .i64 m, .slice p n c] (0, 0) _ (.int .i64 97) (by rfl) (by rfl) (setRow_heap _ _ _ _ 29 (0, 0) HEU.out.z) Tryz.underlying29 rfl infoR) rfl ⟨rfl, ?_⟩
  exact setRow_below HEU.out.be (by have := HRR.out; omega)
theorem re98_11 (r m : Int) (p : Option Addr) (c : Nat) (L : List It) (x : It) (w : World) (h : Li w p c L) (hn : L.length ≤ 4096) (s1 : (x.sd != 1) = false) (y1 : (x.ty != 1) = false) (y3 : (x.ty == 2) = false) (hp : isP x.pr = true) (d1 : decide (x.qt < 1) = false) (d2 : decide (4294967295 < x.qt) = false) (z1 : (x.id == 0) = false) (hf : ¬ 0 ≤ fni x.id L) (hm : m ≤ (L.length : Int)) (he : rfd m L x = 98) :
    Calls Tryz.prog 10 #[.agg #[.int .i64 r, .int .i64 m, .slice p L.length c], .agg #[.int .u64 x.id, .int .u32 x.mb, .int .i64 x.sd, .int .i64 x.ty, .int .i64 x.pr, .int .u64 x.qt]] w fun e w' => e = .returned (.tuple #[.agg #[.int .i64 r, .int .i64 m, .slice p L.length c], .int .i64 (rfd m L x)]) ∧ Below w.heap.size w w' := by
  rw [he]
  clear he
  have CT := hid (fun U => tick_any x.pr U)
  have CP := hid (fun (U : World) (hU : Below w.heap.size w U) => rplace_any r m x.id p c L U (h.on hU) hn)
  obtain ⟨n, hnn⟩ : ∃ n, L.length = n := ⟨_, rfl⟩
  rw [hnn] at hn CP ⊢
  rw [hnn] at hm
  obtain ⟨v, hv⟩ : ∃ v, fni x.id L = v := ⟨_, rfl⟩
  rw [hv] at CP hf
  clear hv
  rw [hp] at CT
  clear hp
  have d3 : decide (0 ≤ v) = false := decide_eq_false hf
  have d4 : decide (m ≤ (n : Int)) = true := decide_eq_true hm
  obtain ⟨R, hR⟩ : ∃ R, w.heap.size = R := ⟨_, rfl⟩
  obtain ⟨W, hW⟩ : ∃ W, ((w.alloc (.cells #[.int .i64 r, .int .i64 m, .slice p n c] 29)).alloc (.cells #[.int .u64 x.id, .int .u32 x.mb, .int .i64 x.sd, .int .i64 x.ty, .int .i64 x.pr, .int .u64 x.qt] 35)).alloc (.cells #[.int .i64 0, .int .i64 0, .slice none 0 0] 29) = W := ⟨_, rfl⟩
  have HE := hid (Et0.mk' hW hR)
  have HW := hid hW
  have HRR := hid hR
  obtain ⟨k0, k1, k2⟩ := row3 HE.out.a
  obtain ⟨i0, i1, i2, i3, i4, i5⟩ := row6 HE.out.b
  have CPW := hid (CP.out W HE.out.be)
  clear hW hR h hnn CP
  go_enter Tryz.func10, Tryz.ntmps10
  go_upto_region 1 with fail
  rw [HW.out, HRR.out]
  go_upto_region 12 with (first | (go_at_call 27; with_reducible refine (CT.out _).mono ?_; rintro e u1 ⟨rfl, rfl⟩) | (go_at_call 28; with_reducible refine (CPW.out).mono ?_; rintro e v1 ⟨rfl, hb⟩; have V1 := hid hb; obtain ⟨m0, m1, m2⟩ := row3 (HE.out.on hb).a; clear hb))
  have HEU := hid (HE.out.on V1.out)
  have AS := hid (show (#[.int .i64 0, .int .i64 0, .slice none 0 0] : Array Value).size = (#[.int .i64 r, .int .i64 m, .slice p n c] : Array Value).size from rfl)
  have AA := hid (show (#[.int .i64 r, .int .i64 m, .slice p n c] : Array Value).all (·.oneCell') = true from by simp [Value.oneCell'])
  go_wp2_with (refine wpList_store_row (by rfl) 29 (.tmp 4) (.tmp 71) (by rfl) (R + 2) #[.int .i64 r, .int .i64 m, .slice p n c] (by rfl) (by rfl) 29 _ HEU.out.z infoRc AS.out AA.out ?_)
  refine bodyPost_ret (res_ct (fn := Tryz.f10) Tryz.results10 _ _ (R + 2) 29 #[.int .i64 r, .int .i64 m, .slice p n c] (0, 0) _ (.int .i64 98) (by rfl) (by rfl) (setRow_heap _ _ _ _ 29 (0, 0) HEU.out.z) Tryz.underlying29 rfl infoR) rfl ⟨rfl, ?_⟩
  exact setRow_below HEU.out.be (by have := HRR.out; omega)
theorem re94a_12 (r m : Int) (p : Option Addr) (c : Nat) (L : List It) (x : It) (w : World) (h : Li w p c L) (hn : L.length ≤ 4096) (s1 : (x.sd != 1) = false) (y1 : (x.ty != 1) = true) (y2 : (x.ty != 2) = false) (y3 : (x.ty == 2) = true) (hp : isP x.pr = false) (he : rfd m L x = 94) :
    Calls Tryz.prog 10 #[.agg #[.int .i64 r, .int .i64 m, .slice p L.length c], .agg #[.int .u64 x.id, .int .u32 x.mb, .int .i64 x.sd, .int .i64 x.ty, .int .i64 x.pr, .int .u64 x.qt]] w fun e w' => e = .returned (.tuple #[.agg #[.int .i64 r, .int .i64 m, .slice p L.length c], .int .i64 (rfd m L x)]) ∧ Below w.heap.size w w' := by
  rw [he]
  clear he
  have CT := hid (fun U => tick_any x.pr U)
  have CP := hid (fun (U : World) (hU : Below w.heap.size w U) => rplace_any r m x.id p c L U (h.on hU) hn)
  obtain ⟨n, hnn⟩ : ∃ n, L.length = n := ⟨_, rfl⟩
  rw [hnn] at hn CP ⊢
  rw [hp] at CT
  clear hp
  obtain ⟨R, hR⟩ : ∃ R, w.heap.size = R := ⟨_, rfl⟩
  obtain ⟨W, hW⟩ : ∃ W, ((w.alloc (.cells #[.int .i64 r, .int .i64 m, .slice p n c] 29)).alloc (.cells #[.int .u64 x.id, .int .u32 x.mb, .int .i64 x.sd, .int .i64 x.ty, .int .i64 x.pr, .int .u64 x.qt] 35)).alloc (.cells #[.int .i64 0, .int .i64 0, .slice none 0 0] 29) = W := ⟨_, rfl⟩
  have HE := hid (Et0.mk' hW hR)
  have HW := hid hW
  have HRR := hid hR
  obtain ⟨k0, k1, k2⟩ := row3 HE.out.a
  obtain ⟨i0, i1, i2, i3, i4, i5⟩ := row6 HE.out.b
  have CPW := hid (CP.out W HE.out.be)
  clear hW hR h hnn CP
  go_enter Tryz.func10, Tryz.ntmps10
  go_upto_region 1 with fail
  rw [HW.out, HRR.out]
  go_upto_region 6 with (go_at_call 27; with_reducible refine (CT.out _).mono ?_; rintro e u1 ⟨rfl, rfl⟩)
  have HEU := HE
  have AS := hid (show (#[.int .i64 0, .int .i64 0, .slice none 0 0] : Array Value).size = (#[.int .i64 r, .int .i64 m, .slice p n c] : Array Value).size from rfl)
  have AA := hid (show (#[.int .i64 r, .int .i64 m, .slice p n c] : Array Value).all (·.oneCell') = true from by simp [Value.oneCell'])
  go_wp2_with (refine wpList_store_row (by rfl) 29 (.tmp 4) (.tmp 41) (by rfl) (R + 2) #[.int .i64 r, .int .i64 m, .slice p n c] (by rfl) (by rfl) 29 _ HEU.out.z infoRc AS.out AA.out ?_)
  refine bodyPost_ret (res_ct (fn := Tryz.f10) Tryz.results10 _ _ (R + 2) 29 #[.int .i64 r, .int .i64 m, .slice p n c] (0, 0) _ (.int .i64 94) (by rfl) (by rfl) (setRow_heap _ _ _ _ 29 (0, 0) HEU.out.z) Tryz.underlying29 rfl infoR) rfl ⟨rfl, ?_⟩
  exact setRow_below HEU.out.be (by have := HRR.out; omega)
theorem re94b_12 (r m : Int) (p : Option Addr) (c : Nat) (L : List It) (x : It) (w : World) (h : Li w p c L) (hn : L.length ≤ 4096) (s1 : (x.sd != 1) = false) (y1 : (x.ty != 1) = true) (y2 : (x.ty != 2) = false) (y3 : (x.ty == 2) = true) (hp : isP x.pr = true) (p0 : (x.pr != 0) = true) (he : rfd m L x = 94) :
    Calls Tryz.prog 10 #[.agg #[.int .i64 r, .int .i64 m, .slice p L.length c], .agg #[.int .u64 x.id, .int .u32 x.mb, .int .i64 x.sd, .int .i64 x.ty, .int .i64 x.pr, .int .u64 x.qt]] w fun e w' => e = .returned (.tuple #[.agg #[.int .i64 r, .int .i64 m, .slice p L.length c], .int .i64 (rfd m L x)]) ∧ Below w.heap.size w w' := by
  rw [he]
  clear he
  have CT := hid (fun U => tick_any x.pr U)
  have CP := hid (fun (U : World) (hU : Below w.heap.size w U) => rplace_any r m x.id p c L U (h.on hU) hn)
  obtain ⟨n, hnn⟩ : ∃ n, L.length = n := ⟨_, rfl⟩
  rw [hnn] at hn CP ⊢
  rw [hp] at CT
  clear hp
  obtain ⟨R, hR⟩ : ∃ R, w.heap.size = R := ⟨_, rfl⟩
  obtain ⟨W, hW⟩ : ∃ W, ((w.alloc (.cells #[.int .i64 r, .int .i64 m, .slice p n c] 29)).alloc (.cells #[.int .u64 x.id, .int .u32 x.mb, .int .i64 x.sd, .int .i64 x.ty, .int .i64 x.pr, .int .u64 x.qt] 35)).alloc (.cells #[.int .i64 0, .int .i64 0, .slice none 0 0] 29) = W := ⟨_, rfl⟩
  have HE := hid (Et0.mk' hW hR)
  have HW := hid hW
  have HRR := hid hR
  obtain ⟨k0, k1, k2⟩ := row3 HE.out.a
  obtain ⟨i0, i1, i2, i3, i4, i5⟩ := row6 HE.out.b
  have CPW := hid (CP.out W HE.out.be)
  clear hW hR h hnn CP
  go_enter Tryz.func10, Tryz.ntmps10
  go_upto_region 1 with fail
  rw [HW.out, HRR.out]
  go_upto_region 6 with (go_at_call 27; with_reducible refine (CT.out _).mono ?_; rintro e u1 ⟨rfl, rfl⟩)
  have HEU := HE
  have AS := hid (show (#[.int .i64 0, .int .i64 0, .slice none 0 0] : Array Value).size = (#[.int .i64 r, .int .i64 m, .slice p n c] : Array Value).size from rfl)
  have AA := hid (show (#[.int .i64 r, .int .i64 m, .slice p n c] : Array Value).all (·.oneCell') = true from by simp [Value.oneCell'])
  go_wp2_with (refine wpList_store_row (by rfl) 29 (.tmp 4) (.tmp 41) (by rfl) (R + 2) #[.int .i64 r, .int .i64 m, .slice p n c] (by rfl) (by rfl) 29 _ HEU.out.z infoRc AS.out AA.out ?_)
  refine bodyPost_ret (res_ct (fn := Tryz.f10) Tryz.results10 _ _ (R + 2) 29 #[.int .i64 r, .int .i64 m, .slice p n c] (0, 0) _ (.int .i64 94) (by rfl) (by rfl) (setRow_heap _ _ _ _ 29 (0, 0) HEU.out.z) Tryz.underlying29 rfl infoR) rfl ⟨rfl, ?_⟩
  exact setRow_below HEU.out.be (by have := HRR.out; omega)
theorem re95a_12 (r m : Int) (p : Option Addr) (c : Nat) (L : List It) (x : It) (w : World) (h : Li w p c L) (hn : L.length ≤ 4096) (s1 : (x.sd != 1) = false) (y1 : (x.ty != 1) = true) (y2 : (x.ty != 2) = false) (y3 : (x.ty == 2) = true) (hp : isP x.pr = true) (p0 : (x.pr != 0) = false) (d1 : decide (x.qt < 1) = true) (he : rfd m L x = 95) :
    Calls Tryz.prog 10 #[.agg #[.int .i64 r, .int .i64 m, .slice p L.length c], .agg #[.int .u64 x.id, .int .u32 x.mb, .int .i64 x.sd, .int .i64 x.ty, .int .i64 x.pr, .int .u64 x.qt]] w fun e w' => e = .returned (.tuple #[.agg #[.int .i64 r, .int .i64 m, .slice p L.length c], .int .i64 (rfd m L x)]) ∧ Below w.heap.size w w' := by
  rw [he]
  clear he
  have CT := hid (fun U => tick_any x.pr U)
  have CP := hid (fun (U : World) (hU : Below w.heap.size w U) => rplace_any r m x.id p c L U (h.on hU) hn)
  obtain ⟨n, hnn⟩ : ∃ n, L.length = n := ⟨_, rfl⟩
  rw [hnn] at hn CP ⊢
  rw [hp] at CT
  clear hp
  obtain ⟨R, hR⟩ : ∃ R, w.heap.size = R := ⟨_, rfl⟩
  obtain ⟨W, hW⟩ : ∃ W, ((w.alloc (.cells #[.int .i64 r, .int .i64 m, .slice p n c] 29)).alloc (.cells #[.int .u64 x.id, .int .u32 x.mb, .int .i64 x.sd, .int .i64 x.ty, .int .i64 x.pr, .int .u64 x.qt] 35)).alloc (.cells #[.int .i64 0, .int .i64 0, .slice none 0 0] 29) = W := ⟨_, rfl⟩
  have HE := hid (Et0.mk' hW hR)
  have HW := hid hW
  have HRR := hid hR
  obtain ⟨k0, k1, k2⟩ := row3 HE.out.a
  obtain ⟨i0, i1, i2, i3, i4, i5⟩ := row6 HE.out.b
  have CPW := hid (CP.out W HE.out.be)
  clear hW hR h hnn CP
  go_enter Tryz.func10, Tryz.ntmps10
  go_upto_region 1 with fail
  rw [HW.out, HRR.out]
  go_upto_region 8 with (go_at_call 27; with_reducible refine (CT.out _).mono ?_; rintro e u1 ⟨rfl, rfl⟩)
  have HEU := HE
  have AS := hid (show (#[.int .i64 0, .int .i64 0, .slice none 0 0] : Array Value).size = (#[.int .i64 r, .int .i64 m, .slice p n c] : Array Value).size from rfl)
  have AA := hid (show (#[.int .i64 r, .int .i64 m, .slice p n c] : Array Value).all (·.oneCell') = true from by simp [Value.oneCell'])
  go_wp2_with (refine wpList_store_row (by rfl) 29 (.tmp 4) (.tmp 51) (by rfl) (R + 2) #[.int .i64 r, .int .i64 m, .slice p n c] (by rfl) (by rfl) 29 _ HEU.out.z infoRc AS.out AA.out ?_)
  refine bodyPost_ret (res_ct (fn := Tryz.f10) Tryz.results10 _ _ (R + 2) 29 #[.int .i64 r, .int .i64 m, .slice p n c] (0, 0) _ (.int .i64 95) (by rfl) (by rfl) (setRow_heap _ _ _ _ 29 (0, 0) HEU.out.z) Tryz.underlying29 rfl infoR) rfl ⟨rfl, ?_⟩
  exact setRow_below HEU.out.be (by have := HRR.out; omega)
theorem re95b_12 (r m : Int) (p : Option Addr) (c : Nat) (L : List It) (x : It) (w : World) (h : Li w p c L) (hn : L.length ≤ 4096) (s1 : (x.sd != 1) = false) (y1 : (x.ty != 1) = true) (y2 : (x.ty != 2) = false) (y3 : (x.ty == 2) = true) (hp : isP x.pr = true) (p0 : (x.pr != 0) = false) (d1 : decide (x.qt < 1) = false) (d2 : decide (4294967295 < x.qt) = true) (he : rfd m L x = 95) :
    Calls Tryz.prog 10 #[.agg #[.int .i64 r, .int .i64 m, .slice p L.length c], .agg #[.int .u64 x.id, .int .u32 x.mb, .int .i64 x.sd, .int .i64 x.ty, .int .i64 x.pr, .int .u64 x.qt]] w fun e w' => e = .returned (.tuple #[.agg #[.int .i64 r, .int .i64 m, .slice p L.length c], .int .i64 (rfd m L x)]) ∧ Below w.heap.size w w' := by
  rw [he]
  clear he
  have CT := hid (fun U => tick_any x.pr U)
  have CP := hid (fun (U : World) (hU : Below w.heap.size w U) => rplace_any r m x.id p c L U (h.on hU) hn)
  obtain ⟨n, hnn⟩ : ∃ n, L.length = n := ⟨_, rfl⟩
  rw [hnn] at hn CP ⊢
  rw [hp] at CT
  clear hp
  obtain ⟨R, hR⟩ : ∃ R, w.heap.size = R := ⟨_, rfl⟩
  obtain ⟨W, hW⟩ : ∃ W, ((w.alloc (.cells #[.int .i64 r, .int .i64 m, .slice p n c] 29)).alloc (.cells #[.int .u64 x.id, .int .u32 x.mb, .int .i64 x.sd, .int .i64 x.ty, .int .i64 x.pr, .int .u64 x.qt] 35)).alloc (.cells #[.int .i64 0, .int .i64 0, .slice none 0 0] 29) = W := ⟨_, rfl⟩
  have HE := hid (Et0.mk' hW hR)
  have HW := hid hW
  have HRR := hid hR
  obtain ⟨k0, k1, k2⟩ := row3 HE.out.a
  obtain ⟨i0, i1, i2, i3, i4, i5⟩ := row6 HE.out.b
  have CPW := hid (CP.out W HE.out.be)
  clear hW hR h hnn CP
  go_enter Tryz.func10, Tryz.ntmps10
  go_upto_region 1 with fail
  rw [HW.out, HRR.out]
  go_upto_region 8 with (go_at_call 27; with_reducible refine (CT.out _).mono ?_; rintro e u1 ⟨rfl, rfl⟩)
  have HEU := HE
  have AS := hid (show (#[.int .i64 0, .int .i64 0, .slice none 0 0] : Array Value).size = (#[.int .i64 r, .int .i64 m, .slice p n c] : Array Value).size from rfl)
  have AA := hid (show (#[.int .i64 r, .int .i64 m, .slice p n c] : Array Value).all (·.oneCell') = true from by simp [Value.oneCell'])
  go_wp2_with (refine wpList_store_row (by rfl) 29 (.tmp 4) (.tmp 51) (by rfl) (R + 2) #[.int .i64 r, .int .i64 m, .slice p n c] (by rfl) (by rfl) 29 _ HEU.out.z infoRc AS.out AA.out ?_)
  refine bodyPost_ret (res_ct (fn := Tryz.f10) Tryz.results10 _ _ (R + 2) 29 #[.int .i64 r, .int .i64 m, .slice p n c] (0, 0) _ (.int .i64 95) (by rfl) (by rfl) (setRow_heap _ _ _ _ 29 (0, 0) HEU.out.z) Tryz.underlying29 rfl infoR) rfl ⟨rfl, ?_⟩
  exact setRow_below HEU.out.be (by have := HRR.out; omega)
theorem re97a_12 (r m : Int) (p : Option Addr) (c : Nat) (L : List It) (x : It) (w : World) (h : Li w p c L) (hn : L.length ≤ 4096) (s1 : (x.sd != 1) = false) (y1 : (x.ty != 1) = true) (y2 : (x.ty != 2) = false) (y3 : (x.ty == 2) = true) (hp : isP x.pr = true) (p0 : (x.pr != 0) = false) (d1 : decide (x.qt < 1) = false) (d2 : decide (4294967295 < x.qt) = false) (z1 : (x.id == 0) = true) (he : rfd m L x = 97) :
    Calls Tryz.prog 10 #[.agg #[.int .i64 r, .int .i64 m, .slice p L.length c], .agg #[.int .u64 x.id, .int .u32 x.mb, .int .i64 x.sd, .int .i64 x.ty, .int .i64 x.pr, .int .u64 x.qt]] w fun e w' => e = .returned (.tuple #[.agg #[.int .i64 r, .int .i64 m, .slice p L.length c], .int .i64 (rfd m L x)]) ∧ Below w.heap.size w w' := by
  rw [he]
  clear he
  have CT := hid (fun U => tick_any x.pr U)
  have CP := hid (fun (U : World) (hU : Below w.heap.size w U) => rplace_any r m x.id p c L U (h.on hU) hn)
  obtain ⟨n, hnn⟩ : ∃ n, L.length = n := ⟨_, rfl⟩
  rw [hnn] at hn CP ⊢
  rw [hp] at CT
  clear hp
  obtain ⟨R, hR⟩ : ∃ R, w.heap.size = R := ⟨_, rfl⟩
  obtain ⟨W, hW⟩ : ∃ W, ((w.alloc (.cells #[.int .i64 r, .int .i64 m, .slice p n c] 29)).alloc (.cells #[.int .u64 x.id, .int .u32 x.mb, .int .i64 x.sd, .int .i64 x.ty, .int .i64 x.pr, .int .u64 x.qt] 35)).alloc (.cells #[.int .i64 0, .int .i64 0, .slice none 0 0] 29) = W := ⟨_, rfl⟩
  have HE := hid (Et0.mk' hW hR)
  have HW := hid hW
  have HRR := hid hR
  obtain ⟨k0, k1, k2⟩ := row3 HE.out.a
  obtain ⟨i0, i1, i2, i3, i4, i5⟩ := row6 HE.out.b
  have CPW := hid (CP.out W HE.out.be)
  clear hW hR h hnn CP
  go_enter Tryz.func10, Tryz.ntmps10
  go_upto_region 1 with fail
  rw [HW.out, HRR.out]
  go_upto_region 10 with (first | (go_at_call 27; with_reducible refine (CT.out _).mono ?_; rintro e u1 ⟨rfl, rfl⟩) | (go_at_call 28; with_reducible refine (CPW.out).mono ?_; rintro e v1 ⟨rfl, hb⟩; have V1 := hid hb; obtain ⟨m0, m1, m2⟩ := row3 (HE.out.on hb).a; clear hb))
  have HEU := HE
  have AS := hid (show (#[.int .i64 0, .int .i64 0, .slice none 0 0] : Array Value).size = (#[.int .i64 r, .int .i64 m, .slice p n c] : Array Value).size from rfl)
  have AA := hid (show (#[.int .i64 r, .int .i64 m, .slice p n c] : Array Value).all (·.oneCell') = true from by simp [Value.oneCell'])
  go_wp2_with (refine wpList_store_row (by rfl) 29 (.tmp 4) (.tmp 63) (by rfl) (R + 2) #[.int .i64 r, .int .i64 m, .slice p n c] (by rfl) (by rfl) 29 _ HEU.out.z infoRc AS.out AA.out ?_)
  refine bodyPost_ret (res_ct (fn := Tryz.f10) Tryz.results10 _ _ (R + 2) 29 #[.int .i64 r, .int .i64 m, .slice p n c] (0, 0) _ (.int .i64 97) (by rfl) (by rfl) (setRow_heap _ _ _ _ 29 (0, 0) HEU.out.z) Tryz.underlying29 rfl infoR) rfl ⟨rfl, ?_⟩
  exact setRow_below HEU.out.be (by have := HRR.out; omega)
theorem re97b_12 (r m : Int) (p : Option Addr) (c : Nat) (L : List It) (x : It) (w : World) (h : Li w p c L) (hn : L.length ≤ 4096) (s1 : (x.sd != 1) = false) (y1 : (x.ty != 1) = true) (y2 : (x.ty != 2) = false) (y3 : (x.ty == 2) = true) (hp : isP x.pr = true) (p0 : (x.pr != 0) = false) (d1 : decide (x.qt < 1) = false) (d2 : decide (4294967295 < x.qt) = false) (z1 : (x.id == 0) = false) (hf : 0 ≤ fni x.id L) (he : rfd m L x = 97) :
    Calls Tryz.prog 10 #[.agg #[.int .i64 r, .int .i64 m, .slice p L.length c], .agg #[.int .u64 x.id, .int .u32 x.mb, .int .i64 x.sd, .int .i64 x.ty, .int .i64 x.pr, .int .u64 x.qt]] w fun e w' => e = .returned (.tuple #[.agg #[.int .i64 r, .int .i64 m, .slice p L.length c], .int .i64 (rfd m L x)]) ∧ Below w.heap.size w w' := by
  rw [he]
  clear he
  have CT := hid (fun U => tick_any x.pr U)
  have CP := hid (fun (U : World) (hU : Below w.heap.size w U) => rplace_any r m x.id p c L U (h.on hU) hn)
  obtain ⟨n, hnn⟩ : ∃ n, L.length = n := ⟨_, rfl⟩
  rw [hnn] at hn CP ⊢
  obtain ⟨v, hv⟩ : ∃ v, fni x.id L = v := ⟨_, rfl⟩
  rw [hv] at CP hf
  clear hv
  rw [hp] at CT
  clear hp
  have d3 : decide (0 ≤ v) = true := decide_eq_true hf
  obtain ⟨R, hR⟩ : ∃ R, w.heap.size = R := ⟨_, rfl⟩
  obtain ⟨W, hW⟩ : ∃ W, ((w.alloc (.cells #[.int .i64 r, .int .i64 m, .slice p n c] 29)).alloc (.cells #[.int .u64 x.id, .int .u32 x.mb, .int .i64 x.sd, .int .i64 x.ty, .int .i64 x.pr, .int .u64 x.qt] 35)).alloc (.cells #[.int .i64 0, .int .i64 0, .slice none 0 0] 29) = W := ⟨_, rfl⟩
  have HE := hid (Et0.mk' hW hR)
  have HW := hid hW
  have HRR := hid hR
  obtain ⟨k0, k1, k2⟩ := row3 HE.out.a
  obtain ⟨i0, i1, i2, i3, i4, i5⟩ := row6 HE.out.b
  have CPW := hid (CP.out W HE.out.be)
  clear hW hR h hnn CP
  go_enter Tryz.func10, Tryz.ntmps10
  go_upto_region 1 with fail
  rw [HW.out, HRR.out]
  go_upto_region 10 with (first | (go_at_call 27; with_reducible refine (CT.out _).mono ?_; rintro e u1 ⟨rfl, rfl⟩) | (go_at_call 28; with_reducible refine (CPW.out).mono ?_; rintro e v1 ⟨rfl, hb⟩; have V1 := hid hb; obtain ⟨m0, m1, m2⟩ := row3 (HE.out.on hb).a; clear hb))
  have HEU := hid (HE.out.on V1.out)
  have AS := hid (show (#[.int .i64 0, .int .i64 0, .slice none 0 0] : Array Value).size = (#[.int .i64 r, .int .i64 m, .slice p n c] : Array Value).size from rfl)
  have AA := hid (show (#[.int .i64 r, .int .i64 m, .slice p n c] : Array Value).all (·.oneCell') = true from by simp [Value.oneCell'])
  go_wp2_with (refine wpList_store_row (by rfl) 29 (.tmp 4) (.tmp 63) (by rfl) (R + 2) #[.int .i64 r, .int .i64 m, .slice p n c] (by rfl) (by rfl) 29 _ HEU.out.z infoRc AS.out AA.out ?_)
  refine bodyPost_ret (res_ct (fn := Tryz.f10) Tryz.results10 _ _ (R + 2) 29 #[.int .i64 r, .int .i64 m, .slice p n c] (0, 0) _ (.int .i64 97) (by rfl) (by rfl) (setRow_heap _ _ _ _ 29 (0, 0) HEU.out.z) Tryz.underlying29 rfl infoR) rfl ⟨rfl, ?_⟩
  exact setRow_below HEU.out.be (by have := HRR.out; omega)
theorem re98_12 (r m : Int) (p : Option Addr) (c : Nat) (L : List It) (x : It) (w : World) (h : Li w p c L) (hn : L.length ≤ 4096) (s1 : (x.sd != 1) = false) (y1 : (x.ty != 1) = true) (y2 : (x.ty != 2) = false) (y3 : (x.ty == 2) = true) (hp : isP x.pr = true) (p0 : (x.pr != 0) = false) (d1 : decide (x.qt < 1) = false) (d2 : decide (4294967295 < x.qt) = false) (z1 : (x.id == 0) = false) (hf : ¬ 0 ≤ fni x.id L) (hm : m ≤ (L.length : Int)) (he : rfd m L x = 98) :
    Calls Tryz.prog 10 #[.agg #[.int .i64 r, .int .i64 m, .slice p L.length c], .agg #[.int .u64 x.id, .int .u32 x.mb, .int .i64 x.sd, .int .i64 x.ty, .int .i64 x.pr, .int .u64 x.qt]] w fun e w' => e = .returned (.tuple #[.agg #[.int .i64 r, .int .i64 m, .slice p L.length c], .int .i64 (rfd m L x)]) ∧ Below w.heap.size w w' := by
  rw [he]
  clear he
  have CT := hid (fun U => tick_any x.pr U)
  have CP := hid (fun (U : World) (hU : Below w.heap.size w U) => rplace_any r m x.id p c L U (h.on hU) hn)
  obtain ⟨n, hnn⟩ : ∃ n, L.length = n := ⟨_, rfl⟩
  rw [hnn] at hn CP ⊢
  rw [hnn] at hm
  obtain ⟨v, hv⟩ : ∃ v, fni x.id L = v := ⟨_, rfl⟩
  rw [hv] at CP hf
  clear hv
  rw [hp] at CT
  clear hp
  have d3 : decide (0 ≤ v) = false := decide_eq_false hf
  have d4 : decide (m ≤ (n : Int)) = true := decide_eq_true hm
  obtain ⟨R, hR⟩ : ∃ R, w.heap.size = R := ⟨_, rfl⟩
  obtain ⟨W, hW⟩ : ∃ W, ((w.alloc (.cells #[.int .i64 r, .int .i64 m, .slice p n c] 29)).alloc (.cells #[.int .u64 x.id, .int .u32 x.mb, .int .i64 x.sd, .int .i64 x.ty, .int .i64 x.pr, .int .u64 x.qt] 35)).alloc (.cells #[.int .i64 0, .int .i64 0, .slice none 0 0] 29) = W := ⟨_, rfl⟩
  have HE := hid (Et0.mk' hW hR)
  have HW := hid hW
  have HRR := hid hR
  obtain ⟨k0, k1, k2⟩ := row3 HE.out.a
  obtain ⟨i0, i1, i2, i3, i4, i5⟩ := row6 HE.out.b
  have CPW := hid (CP.out W HE.out.be)
  clear hW hR h hnn CP
  go_enter Tryz.func10, Tryz.ntmps10
  go_upto_region 1 with fail
  rw [HW.out, HRR.out]
  go_upto_region 12 with (first | (go_at_call 27; with_reducible refine (CT.out _).mono ?_; rintro e u1 ⟨rfl, rfl⟩) | (go_at_call 28; with_reducible refine (CPW.out).mono ?_; rintro e v1 ⟨rfl, hb⟩; have V1 := hid hb; obtain ⟨m0, m1, m2⟩ := row3 (HE.out.on hb).a; clear hb))
  have HEU := hid (HE.out.on V1.out)
  have AS := hid (show (#[.int .i64 0, .int .i64 0, .slice none 0 0] : Array Value).size = (#[.int .i64 r, .int .i64 m, .slice p n c] : Array Value).size from rfl)
  have AA := hid (show (#[.int .i64 r, .int .i64 m, .slice p n c] : Array Value).all (·.oneCell') = true from by simp [Value.oneCell'])
  go_wp2_with (refine wpList_store_row (by rfl) 29 (.tmp 4) (.tmp 71) (by rfl) (R + 2) #[.int .i64 r, .int .i64 m, .slice p n c] (by rfl) (by rfl) 29 _ HEU.out.z infoRc AS.out AA.out ?_)
  refine bodyPost_ret (res_ct (fn := Tryz.f10) Tryz.results10 _ _ (R + 2) 29 #[.int .i64 r, .int .i64 m, .slice p n c] (0, 0) _ (.int .i64 98) (by rfl) (by rfl) (setRow_heap _ _ _ _ 29 (0, 0) HEU.out.z) Tryz.underlying29 rfl infoR) rfl ⟨rfl, ?_⟩
  exact setRow_below HEU.out.be (by have := HRR.out; omega)
theorem re93_2 (r m : Int) (p : Option Addr) (c : Nat) (L : List It) (x : It) (w : World) (h : Li w p c L) (hn : L.length ≤ 4096) (s1 : (x.sd != 1) = true) (s2 : (x.sd != 2) = false) (y1 : (x.ty != 1) = true) (y2 : (x.ty != 2) = true) (he : rfd m L x = 93) :
    Calls Tryz.prog 10 #[.agg #[.int .i64 r, .int .i64 m, .slice p L.length c], .agg #[.int .u64 x.id, .int .u32 x.mb, .int .i64 x.sd, .int .i64 x.ty, .int .i64 x.pr, .int .u64 x.qt]] w fun e w' => e = .returned (.tuple #[.agg #[.int .i64 r, .int .i64 m, .slice p L.length c], .int .i64 (rfd m L x)]) ∧ Below w.heap.size w w' := by
  rw [he]
  clear he
  have CT := hid (fun U => tick_any x.pr U)
  have CP := hid (fun (U : World) (hU : Below w.heap.size w U) => rplace_any r m x.id p c L U (h.on hU) hn)
  obtain ⟨n, hnn⟩ : ∃ n, L.length = n := ⟨_, rfl⟩
  rw [hnn] at hn CP ⊢
  obtain ⟨R, hR⟩ : ∃ R, w.heap.size = R := ⟨_, rfl⟩
  obtain ⟨W, hW⟩ : ∃ W, ((w.alloc (.cells #[.int .i64 r, .int .i64 m, .slice p n c] 29)).alloc (.cells #[.int .u64 x.id, .int .u32 x.mb, .int .i64 x.sd, .int .i64 x.ty, .int .i64 x.pr, .int .u64 x.qt] 35)).alloc (.cells #[.int .i64 0, .int .i64 0, .slice none 0 0] 29) = W := ⟨_, rfl⟩
  have HE := hid (Et0.mk' hW hR)
  have HW := hid hW
  have HRR := hid hR
  obtain ⟨k0, k1, k2⟩ := row3 HE.out.a
  obtain ⟨i0, i1, i2, i3, i4, i5⟩ := row6 HE.out.b
  have CPW := hid (CP.out W HE.out.be)
  clear hW hR h hnn CP
  go_enter Tryz.func10, Tryz.ntmps10
  go_upto_region 1 with fail
  rw [HW.out, HRR.out]
  go_upto_region 4 with fail
  have HEU := HE
  have AS := hid (show (#[.int .i64 0, .int .i64 0, .slice none 0 0] : Array Value).size = (#[.int .i64 r, .int .i64 m, .slice p n c] : Array Value).size from rfl)
  have AA := hid (show (#[.int .i64 r, .int .i64 m, .slice p n c] : Array Value).all (·.oneCell') = true from by simp [Value.oneCell'])
  go_wp2_with (refine wpList_store_row (by rfl) 29 (.tmp 4) (.tmp 25) (by rfl) (R + 2) #[.int .i64 r, .int .i64 m, .slice p n c] (by rfl) (by rfl) 29 _ HEU.out.z infoRc AS.out AA.out ?_)
  refine bodyPost_ret (res_ct (fn := Tryz.f10) Tryz.results10 _ _ (R + 2) 29 #[.int .i64 r, .int .i64 m, .slice p n c] (0, 0) _ (.int .i64 93) (by rfl) (by rfl) (setRow_heap _ _ _ _ 29 (0, 0) HEU.out.z) Tryz.underlying29 rfl infoR) rfl ⟨rfl, ?_⟩
  exact setRow_below HEU.out.be (by have := HRR.out; omega)
theorem re94a_21 (r m : Int) (p : Option Addr) (c : Nat) (L : List It) (x : It) (w : World) (h : Li w p c L) (hn : L.length ≤ 4096) (s1 : (x.sd != 1) = true) (s2 : (x.sd != 2) = false) (y1 : (x.ty != 1) = false) (y3 : (x.ty == 2) = false) (hp : isP x.pr = false) (he : rfd m L x = 94) :
    Calls Tryz.prog 10 #[.agg #[.int .i64 r, .int .i64 m, .slice p L.length c], .agg #[.int .u64 x.id, .int .u32 x.mb, .int .i64 x.sd, .int .i64 x.ty, .int .i64 x.pr, .int .u64 x.qt]] w fun e w' => e = .returned (.tuple #[.agg #[.int .i64 r, .int .i64 m, .slice p L.length c], .int .i64 (rfd m L x)]) ∧ Below w.heap.size w w' := by
  rw [he]
  clear he
  have CT := hid (fun U => tick_any x.pr U)
  have CP := hid (fun (U : World) (hU : Below w.heap.size w U) => rplace_any r m x.id p c L U (h.on hU) hn)
  obtain ⟨n, hnn⟩ : ∃ n, L.length = n := ⟨_, rfl⟩
  rw [hnn] at hn CP ⊢
  rw [hp] at CT
  clear hp
  obtain ⟨R, hR⟩ : ∃ R, w.heap.size = R := ⟨_, rfl⟩
  obtain ⟨W, hW⟩ : ∃ W, ((w.alloc (.cells #[.int .i64 r, .int .i64 m, .slice p n c] 29)).alloc (.cells #[.int .u64 x.id, .int .u32 x.mb, .int .i64 x.sd, .int .i64 x.ty, .int .i64 x.pr, .int .u64 x.qt] 35)).alloc (.cells #[.int .i64 0, .int .i64 0, .slice none 0 0] 29) = W := ⟨_, rfl⟩
  have HE := hid (Et0.mk' hW hR)
  have HW := hid hW
  have HRR := hid hR
  obtain ⟨k0, k1, k2⟩ := row3 HE.out.a
  obtain ⟨i0, i1, i2, i3, i4, i5⟩ := row6 HE.out.b
  have CPW := hid (CP.out W HE.out.be)
  clear hW hR h hnn CP
  go_enter Tryz.func10, Tryz.ntmps10
  go_upto_region 1 with fail
  rw [HW.out, HRR.out]
  go_upto_region 6 with (go_at_call 27; with_reducible refine (CT.out _).mono ?_; rintro e u1 ⟨rfl, rfl⟩)
  have HEU := HE
  have AS := hid (show (#[.int .i64 0, .int .i64 0, .slice none 0 0] : Array Value).size = (#[.int .i64 r, .int .i64 m, .slice p n c] : Array Value).size from rfl)
  have AA := hid (show (#[.int .i64 r, .int .i64 m, .slice p n c] : Array Value).all (·.oneCell') = true from by simp [Value.oneCell'])
  go_wp2_with (refine wpList_store_row (by rfl) 29 (.tmp 4) (.tmp 41) (by rfl) (R + 2) #[.int .i64 r, .int .i64 m, .slice p n c] (by rfl) (by rfl) 29 _ HEU.out.z infoRc AS.out AA.out ?_)
  refine bodyPost_ret (res_ct (fn := Tryz.f10) Tryz.results10 _ _ (R + 2) 29 #[.int .i64 r, .int .i64 m, .slice p n c] (0, 0) _ (.int .i64 94) (by rfl) (by rfl) (setRow_heap _ _ _ _ 29 (0, 0) HEU.out.z) Tryz.underlying29 rfl infoR) rfl ⟨rfl, ?_⟩
  exact setRow_below HEU.out.be (by have := HRR.out; omega)
theorem re95a_21 (r m : Int) (p : Option Addr) (c : Nat) (L : List It) (x : It) (w : World) (h : Li w p c L) (hn : L.length ≤ 4096) (s1 : (x.sd != 1) = true) (s2 : (x.sd != 2) = false) (y1 : (x.ty != 1) = false) (y3 : (x.ty == 2) = false) (hp : isP x.pr = true) (d1 : decide (x.qt < 1) = true) (he : rfd m L x = 95) :
    Calls Tryz.prog 10 #[.agg #[.int .i64 r, .int .i64 m, .slice p L.length c], .agg #[.int .u64 x.id, .int .u32 x.mb, .int .i64 x.sd, .int .i64 x.ty, .int .i64 x.pr, .int .u64 x.qt]] w fun e w' => e = .returned (.tuple #[.agg #[.int .i64 r, .int .i64 m, .slice p L.length c], .int .i64 (rfd m L x)]) ∧ Below w.heap.size w w' := by
  rw [he]
  clear he
  have CT := hid (fun U => tick_any x.pr U)
  have CP := hid (fun (U : World) (hU : Below w.heap.size w U) => rplace_any r m x.id p c L U (h.on hU) hn)
  obtain ⟨n, hnn⟩ : ∃ n, L.length = n := ⟨_, rfl⟩
  rw [hnn] at hn CP ⊢
  rw [hp] at CT
  clear hp
  obtain ⟨R, hR⟩ : ∃ R, w.heap.size = R := ⟨_, rfl⟩
  obtain ⟨W, hW⟩ : ∃ W, ((w.alloc (.cells #[.int .i64 r, .int .i64 m, .slice p n c] 29)).alloc (.cells #[.int .u64 x.id, .int .u32 x.mb, .int .i64 x.sd, .int .i64 x.ty, .int .i64 x.pr, .int .u64 x.qt] 35)).alloc (.cells #[.int .i64 0, .int .i64 0, .slice none 0 0] 29) = W := ⟨_, rfl⟩
  have HE := hid (Et0.mk' hW hR)
  have HW := hid hW
  have HRR := hid hR
  obtain ⟨k0, k1, k2⟩ := row3 HE.out.a
  obtain ⟨i0, i1, i2, i3, i4, i5⟩ := row6 HE.out.b
  have CPW := hid (CP.out W HE.out.be)
  clear hW hR h hnn CP
  go_enter Tryz.func10, Tryz.ntmps10
  go_upto_region 1 with fail
  rw [HW.out, HRR.out]
  go_upto_region 8 with (go_at_call 27; with_reducible refine (CT.out _).mono ?_; rintro e u1 ⟨rfl, rfl⟩)
  have HEU := HE
  have AS := hid (show (#[.int .i64 0, .int .i64 0, .slice none 0 0] : Array Value).size = (#[.int .i64 r, .int .i64 m, .slice p n c] : Array Value).size from rfl)
  have AA := hid (show (#[.int .i64 r, .int .i64 m, .slice p n c] : Array Value).all (·.oneCell') = true from by simp [Value.oneCell'])
  go_wp2_with (refine wpList_store_row (by rfl) 29 (.tmp 4) (.tmp 51) (by rfl) (R + 2) #[.int .i64 r, .int .i64 m, .slice p n c] (by rfl) (by rfl) 29 _ HEU.out.z infoRc AS.out AA.out ?_)
  refine bodyPost_ret (res_ct (fn := Tryz.f10) Tryz.results10 _ _ (R + 2) 29 #[.int .i64 r, .int .i64 m, .slice p n c] (0, 0) _ (.int .i64 95) (by rfl) (by rfl) (setRow_heap _ _ _ _ 29 (0, 0) HEU.out.z) Tryz.underlying29 rfl infoR) rfl ⟨rfl, ?_⟩
  exact setRow_below HEU.out.be (by have := HRR.out; omega)
theorem re95b_21 (r m : Int) (p : Option Addr) (c : Nat) (L : List It) (x : It) (w : World) (h : Li w p c L) (hn : L.length ≤ 4096) (s1 : (x.sd != 1) = true) (s2 : (x.sd != 2) = false) (y1 : (x.ty != 1) = false) (y3 : (x.ty == 2) = false) (hp : isP x.pr = true) (d1 : decide (x.qt < 1) = false) (d2 : decide (4294967295 < x.qt) = true) (he : rfd m L x = 95) :
    Calls Tryz.prog 10 #[.agg #[.int .i64 r, .int .i64 m, .slice p L.length c], .agg #[.int .u64 x.id, .int .u32 x.mb, .int .i64 x.sd, .int .i64 x.ty, .int .i64 x.pr, .int .u64 x.qt]] w fun e w' => e = .returned (.tuple #[.agg #[.int .i64 r, .int .i64 m, .slice p L.length c], .int .i64 (rfd m L x)]) ∧ Below w.heap.size w w' := by
  rw [he]
  clear he
  have CT := hid (fun U => tick_any x.pr U)
  have CP := hid (fun (U : World) (hU : Below w.heap.size w U) => rplace_any r m x.id p c L U (h.on hU) hn)
  obtain ⟨n, hnn⟩ : ∃ n, L.length = n := ⟨_, rfl⟩
  rw [hnn] at hn CP ⊢
  rw [hp] at CT
  clear hp
  obtain ⟨R, hR⟩ : ∃ R, w.heap.size = R := ⟨_, rfl⟩
  obtain ⟨W, hW⟩ : ∃ W, ((w.alloc (.cells #[.int .i64 r, .int .i64 m, .slice p n c] 29)).alloc (.cells #[.int .u64 x.id, .int .u32 x.mb, .int .i64 x.sd, .int .i64 x.ty, .int .i64 x.pr, .int .u64 x.qt] 35)).alloc (.cells #[.int .i64 0, .int .i64 0, .slice none 0 0] 29) = W := ⟨_, rfl⟩
  have HE := hid (Et0.mk' hW hR)
  have HW := hid hW
  have HRR := hid hR
  obtain ⟨k0, k1, k2⟩ := row3 HE.out.a
  obtain ⟨i0, i1, i2, i3, i4, i5⟩ := row6 HE.out.b
  have CPW := hid (CP.out W HE.out.be)
  clear hW hR h hnn CP
  go_enter Tryz.func10, Tryz.ntmps10
  go_upto_region 1 with fail
  rw [HW.out, HRR.out]
  go_upto_region 8 with (go_at_call 27; with_reducible refine (CT.out _).mono ?_; rintro e u1 ⟨rfl, rfl⟩)
  have HEU := HE
  have AS := hid (show (#[.int .i64 0, .int .i64 0, .slice none 0 0] : Array Value).size = (#[.int .i64 r, .int .i64 m, .slice p n c] : Array Value).size from rfl)
  have AA := hid (show (#[.int .i64 r, .int .i64 m, .slice p n c] : Array Value).all (·.oneCell') = true from by simp [Value.oneCell'])
  go_wp2_with (refine wpList_store_row (by rfl) 29 (.tmp 4) (.tmp 51) (by rfl) (R + 2) #[.int .i64 r, .int .i64 m, .slice p n c] (by rfl) (by rfl) 29 _ HEU.out.z infoRc AS.out AA.out ?_)
  refine bodyPost_ret (res_ct (fn := Tryz.f10) Tryz.results10 _ _ (R + 2) 29 #[.int .i64 r, .int .i64 m, .slice p n c] (0, 0) _ (.int .i64 95) (by rfl) (by rfl) (setRow_heap _ _ _ _ 29 (0, 0) HEU.out.z) Tryz.underlying29 rfl infoR) rfl ⟨rfl, ?_⟩
  exact setRow_below HEU.out.be (by have := HRR.out; omega)
theorem re97a_21 (r m : Int) (p : Option Addr) (c : Nat) (L : List It) (x : It) (w : World) (h : Li w p c L) (hn : L.length ≤ 4096) (s1 : (x.sd != 1) = true) (s2 : (x.sd != 2) = false) (y1 : (x.ty != 1) = false) (y3 : (x.ty == 2) = false) (hp : isP x.pr = true) (d1 : decide (x.qt < 1) = false) (d2 : decide (4294967295 < x.qt) = false) (z1 : (x.id == 0) = true) (he : rfd m L x = 97) :
    Calls Tryz.prog 10 #[.agg #[.int .i64 r, .int .i64 m, .slice p L.length c], .agg #[.int .u64 x.id, .int .u32 x.mb, .int .i64 x.sd, .int .i64 x.ty, .int .i64 x.pr, .int .u64 x.qt]] w fun e w' => e = .returned (.tuple #[.agg #[.int .i64 r, .int .i64 m, .slice p L.length c], .int .i64 (rfd m L x)]) ∧ Below w.heap.size w w' := by
  rw [he]
  clear he
  have CT := hid (fun U => tick_any x.pr U)
  have CP := hid (fun (U : World) (hU : Below w.heap.size w U) => rplace_any r m x.id p c L U (h.on hU) hn)
  obtain ⟨n, hnn⟩ : ∃ n, L.length = n := ⟨_, rfl⟩
  rw [hnn] at hn CP ⊢
  rw [hp] at CT
  clear hp
  obtain ⟨R, hR⟩ : ∃ R, w.heap.size = R := ⟨_, rfl⟩
  obtain ⟨W, hW⟩ : ∃ W, ((w.alloc (.cells #[.int .i64 r, .int .i64 m, .slice p n c] 29)).alloc (.cells #[.int .u64 x.id, .int .u32 x.mb, .int .i64 x.sd, .int .i64 x.ty, .int .i64 x.pr, .int .u64 x.qt] 35)).alloc (.cells #[.int .i64 0, .int .i64 0, .slice none 0 0] 29) = W := ⟨_, rfl⟩
  have HE := hid (Et0.mk' hW hR)
  have HW := hid hW
  have HRR := hid hR
  obtain ⟨k0, k1, k2⟩ := row3 HE.out.a
  obtain ⟨i0, i1, i2, i3, i4, i5⟩ := row6 HE.out.b
  have CPW := hid (CP.out W HE.out.be)
  clear hW hR h hnn CP
  go_enter Tryz.func10, Tryz.ntmps10
  go_upto_region 1 with fail
  rw [HW.out, HRR.out]
  go_upto_region 10 with (first | (go_at_call 27; with_reducible refine (CT.out _).mono ?_; rintro e u1 ⟨rfl, rfl⟩) | (go_at_call 28; with_reducible refine (CPW.out).mono ?_; rintro e v1 ⟨rfl, hb⟩; have V1 := hid hb; obtain ⟨m0, m1, m2⟩ := row3 (HE.out.on hb).a; clear hb))
  have HEU := HE
  have AS := hid (show (#[.int .i64 0, .int .i64 0, .slice none 0 0] : Array Value).size = (#[.int .i64 r, .int .i64 m, .slice p n c] : Array Value).size from rfl)
  have AA := hid (show (#[.int .i64 r, .int .i64 m, .slice p n c] : Array Value).all (·.oneCell') = true from by simp [Value.oneCell'])
  go_wp2_with (refine wpList_store_row (by rfl) 29 (.tmp 4) (.tmp 63) (by rfl) (R + 2) #[.int .i64 r, .int .i64 m, .slice p n c] (by rfl) (by rfl) 29 _ HEU.out.z infoRc AS.out AA.out ?_)
  refine bodyPost_ret (res_ct (fn := Tryz.f10) Tryz.results10 _ _ (R + 2) 29 #[.int .i64 r, .int .i64 m, .slice p n c] (0, 0) _ (.int .i64 97) (by rfl) (by rfl) (setRow_heap _ _ _ _ 29 (0, 0) HEU.out.z) Tryz.underlying29 rfl infoR) rfl ⟨rfl, ?_⟩
  exact setRow_below HEU.out.be (by have := HRR.out; omega)
theorem re97b_21 (r m : Int) (p : Option Addr) (c : Nat) (L : List It) (x : It) (w : World) (h : Li w p c L) (hn : L.length ≤ 4096) (s1 : (x.sd != 1) = true) (s2 : (x.sd != 2) = false) (y1 : (x.ty != 1) = false) (y3 : (x.ty == 2) = false) (hp : isP x.pr = true) (d1 : decide (x.qt < 1) = false) (d2 : decide (4294967295 < x.qt) = false) (z1 : (x.id == 0) = false) (hf : 0 ≤ fni x.id L) (he : rfd m L x = 97) :
    Calls Tryz.prog 10 #[.agg #[.int .i64 r, .int .i64 m, .slice p L.length c], .agg #[.int .u64 x.id, .int .u32 x.mb, .int .i64 x.sd, .int .i64 x.ty, .int .i64 x.pr, .int .u64 x.qt]] w fun e w' => e = .returned (.tuple #[.agg #[.int .i64 r, .int .i64 m, .slice p L.length c], .int .i64 (rfd m L x)]) ∧ Below w.heap.size w w' := by
  rw [he]
  clear he
  have CT := hid (fun U => tick_any x.pr U)
  have CP := hid (fun (U : World) (hU : Below w.heap.size w U) => rplace_any r m x.id p c L U (h.on hU) hn)
  obtain ⟨n, hnn⟩ : ∃ n, L.length = n := ⟨_, rfl⟩
  rw [hnn] at hn CP ⊢
  obtain ⟨v, hv⟩ : ∃ v, fni x.id L = v := ⟨_, rfl⟩
  rw [hv] at CP hf
  clear hv
  rw [hp] at CT
  clear hp
  have d3 : decide (0 ≤ v) = true := decide_eq_true hf
  obtain ⟨R, hR⟩ : ∃ R, w.heap.size = R := ⟨_, rfl⟩
  obtain ⟨W, hW⟩ : ∃ W, ((w.alloc (.cells #[.int .i64 r, .int .i64 m, .slice p n c] 29)).alloc (.cells #[.int .u64 x.id, .int .u32 x.mb, .int .i64 x.sd, .int .i64 x.ty, .int .i64 x.pr, .int .u64 x.qt] 35)).alloc (.cells #[.int .i64 0, .int .i64 0, .slice none 0 0] 29) = W := ⟨_, rfl⟩
  have HE := hid (Et0.mk' hW hR)
  have HW := hid hW
  have HRR := hid hR
  obtain ⟨k0, k1, k2⟩ := row3 HE.out.a
  obtain ⟨i0, i1, i2, i3, i4, i5⟩ := row6 HE.out.b
  have CPW := hid (CP.out W HE.out.be)
  clear hW hR h hnn CP
  go_enter Tryz.func10, Tryz.ntmps10
  go_upto_region 1 with fail
  rw [HW.out, HRR.out]
  go_upto_region 10 with (first | (go_at_call 27; with_reducible refine (CT.out _).mono ?_; rintro e u1 ⟨rfl, rfl⟩) | (go_at_call 28; with_reducible refine (CPW.out).mono ?_; rintro e v1 ⟨rfl, hb⟩; have V1 := hid hb; obtain ⟨m0, m1, m2⟩ := row3 (HE.out.on hb).a; clear hb))
  have HEU := hid (HE.out.on V1.out)
  have AS := hid (show (#[.int .i64 0, .int .i64 0, .slice none 0 0] : Array Value).size = (#[.int .i64 r, .int .i64 m, .slice p n c] : Array Value).size from rfl)
  have AA := hid (show (#[.int .i64 r, .int .i64 m, .slice p n c] : Array Value).all (·.oneCell') = true from by simp [Value.oneCell'])
  go_wp2_with (refine wpList_store_row (by rfl) 29 (.tmp 4) (.tmp 63) (by rfl) (R + 2) #[.int .i64 r, .int .i64 m, .slice p n c] (by rfl) (by rfl) 29 _ HEU.out.z infoRc AS.out AA.out ?_)
  refine bodyPost_ret (res_ct (fn := Tryz.f10) Tryz.results10 _ _ (R + 2) 29 #[.int .i64 r, .int .i64 m, .slice p n c] (0, 0) _ (.int .i64 97) (by rfl) (by rfl) (setRow_heap _ _ _ _ 29 (0, 0) HEU.out.z) Tryz.underlying29 rfl infoR) rfl ⟨rfl, ?_⟩
  exact setRow_below HEU.out.be (by have := HRR.out; omega)
theorem re98_21 (r m : Int) (p : Option Addr) (c : Nat) (L : List It) (x : It) (w : World) (h : Li w p c L) (hn : L.length ≤ 4096) (s1 : (x.sd != 1) = true) (s2 : (x.sd != 2) = false) (y1 : (x.ty != 1) = false) (y3 : (x.ty == 2) = false) (hp : isP x.pr = true) (d1 : decide (x.qt < 1) = false) (d2 : decide (4294967295 < x.qt) = false) (z1 : (x.id == 0) = false) (hf : ¬ 0 ≤ fni x.id L) (hm : m ≤ (L.length : Int)) (he : rfd m L x = 98) :
    Calls Tryz.prog 10 #[.agg #[.int .i64 r, .int .i64 m, .slice p L.length c], .agg #[.int .u64 x.id, .int .u32 x.mb, .int .i64 x.sd, .int .i64 x.ty, .int .i64 x.pr, .int .u64 x.qt]] w fun e w' => e = .returned (.tuple #[.agg #[.int .i64 r, .int .i64 m, .slice p L.length c], .int .i64 (rfd m L x)]) ∧ Below w.heap.size w w' := by
  rw [he]
  clear he
  have CT := hid (fun U => tick_any x.pr U)
  have CP := hid (fun (U : World) (hU : Below w.heap.size w U) => rplace_any r m x.id p c L U (h.on hU) hn)
  obtain ⟨n, hnn⟩ : ∃ n, L.length = n := ⟨_, rfl⟩
  rw [hnn] at hn CP ⊢
  rw [hnn] at hm
  obtain ⟨v, hv⟩ : ∃ v, fni x.id L = v := ⟨_, rfl⟩
  rw [hv] at CP hf
  clear hv
  rw [hp] at CT
  clear hp
  have d3 : decide (0 ≤ v) = false := decide_eq_false hf
  have d4 : decide (m ≤ (n : Int)) = true := decide_eq_true hm
  obtain ⟨R, hR⟩ : ∃ R, w.heap.size = R := ⟨_, rfl⟩
  obtain ⟨W, hW⟩ : ∃ W, ((w.alloc (.cells #[.int .i64 r, .int .i64 m, .slice p n c] 29)).alloc (.cells #[.int .u64 x.id, .int .u32 x.mb, .int .i64 x.sd, .int .i64 x.ty, .int .i64 x.pr, .int .u64 x.qt] 35)).alloc (.cells #[.int .i64 0, .int .i64 0, .slice none 0 0] 29) = W := ⟨_, rfl⟩
  have HE := hid (Et0.mk' hW hR)
  have HW := hid hW
  have HRR := hid hR
  obtain ⟨k0, k1, k2⟩ := row3 HE.out.a
  obtain ⟨i0, i1, i2, i3, i4, i5⟩ := row6 HE.out.b
  have CPW := hid (CP.out W HE.out.be)
  clear hW hR h hnn CP
  go_enter Tryz.func10, Tryz.ntmps10
  go_upto_region 1 with fail
  rw [HW.out, HRR.out]
  go_upto_region 12 with (first | (go_at_call 27; with_reducible refine (CT.out _).mono ?_; rintro e u1 ⟨rfl, rfl⟩) | (go_at_call 28; with_reducible refine (CPW.out).mono ?_; rintro e v1 ⟨rfl, hb⟩; have V1 := hid hb; obtain ⟨m0, m1, m2⟩ := row3 (HE.out.on hb).a; clear hb))
  have HEU := hid (HE.out.on V1.out)
  have AS := hid (show (#[.int .i64 0, .int .i64 0, .slice none 0 0] : Array Value).size = (#[.int .i64 r, .int .i64 m, .slice p n c] : Array Value).size from rfl)
  have AA := hid (show (#[.int .i64 r, .int .i64 m, .slice p n c] : Array Value).all (·.oneCell') = true from by simp [Value.oneCell'])
  go_wp2_with (refine wpList_store_row (by rfl) 29 (.tmp 4) (.tmp 71) (by rfl) (R + 2) #[.int .i64 r, .int .i64 m, .slice p n c] (by rfl) (by rfl) 29 _ HEU.out.z infoRc AS.out AA.out ?_)
  refine bodyPost_ret (res_ct (fn := Tryz.f10) Tryz.results10 _ _ (R + 2) 29 #[.int .i64 r, .int .i64 m, .slice p n c] (0, 0) _ (.int .i64 98) (by rfl) (by rfl) (setRow_heap _ _ _ _ 29 (0, 0) HEU.out.z) Tryz.underlying29 rfl infoR) rfl ⟨rfl, ?_⟩
  exact setRow_below HEU.out.be (by have := HRR.out; omega)
theorem re94a_22 (r m : Int) (p : Option Addr) (c : Nat) (L : List It) (x : It) (w : World) (h : Li w p c L) (hn : L.length ≤ 4096) (s1 : (x.sd != 1) = true) (s2 : (x.sd != 2) = false) (y1 : (x.ty != 1) = true) (y2 : (x.ty != 2) = false) (y3 : (x.ty == 2) = true) (hp : isP x.pr = false) (he : rfd m L x = 94) :
    Calls Tryz.prog 10 #[.agg #[.int .i64 r, .int .i64 m, .slice p L.length c], .agg #[.int .u64 x.id, .int .u32 x.mb, .int .i64 x.sd, .int .i64 x.ty, .int .i64 x.pr, .int .u64 x.qt]] w fun e w' => e = .returned (.tuple #[.agg #[.int .i64 r, .int .i64 m, .slice p L.length c], .int .i64 (rfd m L x)]) ∧ Below w.heap.size w w' := by
  rw [he]
  clear he
  have CT := hid (fun U => tick_any x.pr U)
  have CP := hid (fun (U : World) (hU : Below w.heap.size w U) => rplace_any r m x.id p c L U (h.on hU) hn)
  obtain ⟨n, hnn⟩ : ∃ n, L.length = n := ⟨_, rfl⟩
  rw [hnn] at hn CP ⊢
  rw [hp] at CT
  clear hp
  obtain ⟨R, hR⟩ : ∃ R, w.heap.size = R := ⟨_, rfl⟩
  obtain ⟨W, hW⟩ : ∃ W, ((w.alloc (.cells #[.int .i64 r, .int .i64 m, .slice p n c] 29)).alloc (.cells #[.int .u64 x.id, .int .u32 x.mb, .int .i64 x.sd, .int .i64 x.ty, .int .i64 x.pr, .int .u64 x.qt] 35)).alloc (.cells #[.int .i64 0, .int .i64 0, .slice none 0 0] 29) = W := ⟨_, rfl⟩
  have HE := hid (Et0.mk' hW hR)
  have HW := hid hW
  have HRR := hid hR
  obtain ⟨k0, k1, k2⟩ := row3 HE.out.a
  obtain ⟨i0, i1, i2, i3, i4, i5⟩ := row6 HE.out.b
  have CPW := hid (CP.out W HE.out.be)
  clear hW hR h hnn CP
  go_enter Tryz.func10, Tryz.ntmps10
  go_upto_region 1 with fail
  rw [HW.out, HRR.out]
  go_upto_region 6 with (go_at_call 27; with_reducible refine (CT.out _).mono ?_; rintro e u1 ⟨rfl, rfl⟩)
  have HEU := HE
  have AS := hid (show (#[.int .i64 0, .int .i64 0, .slice none 0 0] : Array Value).size = (#[.int .i64 r, .int .i64 m, .slice p n c] : Array Value).size from rfl)
  have AA := hid (show (#[.int .i64 r, .int .i64 m, .slice p n c] : Array Value).all (·.oneCell') = true from by simp [Value.oneCell'])
  go_wp2_with (refine wpList_store_row (by rfl) 29 (.tmp 4) (.tmp 41) (by rfl) (R + 2) #[.int .i64 r, .int .i64 m, .slice p n c] (by rfl) (by rfl) 29 _ HEU.out.z infoRc AS.out AA.out ?_)
  refine bodyPost_ret (res_ct (fn := Tryz.f10) Tryz.results10 _ _ (R + 2) 29 #[.int .i64 r, .int .i64 m, .slice p n c] (0, 0) _ (.int .i64 94) (by rfl) (by rfl) (setRow_heap _ _ _ _ 29 (0, 0) HEU.out.z) Tryz.underlying29 rfl infoR) rfl ⟨rfl, ?_⟩
  exact setRow_below HEU.out.be (by have := HRR.out; omega)
theorem re94b_22 (r m : Int) (p : Option Addr) (c : Nat) (L : List It) (x : It) (w : World) (h : Li w p c L) (hn : L.length ≤ 4096) (s1 : (x.sd != 1) = true) (s2 : (x.sd != 2) = false) (y1 : (x.ty != 1) = true) (y2 : (x.ty != 2) = false) (y3 : (x.ty == 2) = true) (hp : isP x.pr = true) (p0 : (x.pr != 0) = true) (he : rfd m L x = 94) :
    Calls Tryz.prog 10 #[.agg #[.int .i64 r, .int .i64 m, .slice p L.length c], .agg #[.int .u64 x.id, .int .u32 x.mb, .int .i64 x.sd, .int .i64 x.ty, .int .i64 x.pr, .int .u64 x.qt]] w fun e w' => e = .returned (.tuple #[.agg #[.int .i64 r, .int .i64 m, .slice p L.length c], .int .i64 (rfd m L x)]) ∧ Below w.heap.size w w' := by
  rw [he]
  clear he
  have CT := hid (fun U => tick_any x.pr U)
  have CP := hid (fun (U : World) (hU : Below w.heap.size w U) => rplace_any r m x.id p c L U (h.on hU) hn)
  obtain ⟨n, hnn⟩ : ∃ n, L.length = n := ⟨_, rfl⟩
  rw [hnn] at hn CP ⊢
  rw [hp] at CT
  clear hp
  obtain ⟨R, hR⟩ : ∃ R, w.heap.size = R := ⟨_, rfl⟩
  obtain ⟨W, hW⟩ : ∃ W, ((w.alloc (.cells #[.int .i64 r, .int .i64 m, .slice p n c] 29)).alloc (.cells #[.int .u64 x.id, .int .u32 x.mb, .int .i64 x.sd, .int .i64 x.ty, .int .i64 x.pr, .int .u64 x.qt] 35)).alloc (.cells #[.int .i64 0, .int .i64 0, .slice none 0 0] 29) = W := ⟨_, rfl⟩
  have HE := hid (Et0.mk' hW hR)
  have HW := hid hW
  have HRR := hid hR
  obtain ⟨k0, k1, k2⟩ := row3 HE.out.a
  obtain ⟨i0, i1, i2, i3, i4, i5⟩ := row6 HE.out.b
  have CPW := hid (CP.out W HE.out.be)
  clear hW hR h hnn CP
  go_enter Tryz.func10, Tryz.ntmps10
  go_upto_region 1 with fail
  rw [HW.out, HRR.out]
  go_upto_region 6 with (go_at_call 27; with_reducible refine (CT.out _).mono ?_; rintro e u1 ⟨rfl, rfl⟩)
  have HEU := HE
  have AS := hid (show (#[.int .i64 0, .int .i64 0, .slice none 0 0] : Array Value).size = (#[.int .i64 r, .int .i64 m, .slice p n c] : Array Value).size from rfl)
  have AA := hid (show (#[.int .i64 r, .int .i64 m, .slice p n c] : Array Value).all (·.oneCell') = true from by simp [Value.oneCell'])
  go_wp2_with (refine wpList_store_row (by rfl) 29 (.tmp 4) (.tmp 41) (by rfl) (R + 2) #[.int .i64 r, .int .i64 m, .slice p n c] (by rfl) (by rfl) 29 _ HEU.out.z infoRc AS.out AA.out ?_)
  refine bodyPost_ret (res_ct (fn := Tryz.f10) Tryz.results10 _ _ (R + 2) 29 #[.int .i64 r, .int .i64 m, .slice p n c] (0, 0) _ (.int .i64 94) (by rfl) (by rfl) (setRow_heap _ _ _ _ 29 (0, 0) HEU.out.z) Tryz.underlying29 rfl infoR) rfl ⟨rfl, ?_⟩
  exact setRow_below HEU.out.be (by have := HRR.out; omega)
theorem re95a_22 (r m : Int) (p : Option Addr) (c : Nat) (L : List It) (x : It) (w : World) (h : Li w p c L) (hn : L.length ≤ 4096) (s1 : (x.sd != 1) = true) (s2 : (x.sd != 2) = false) (y1 : (x.ty != 1) = true) (y2 : (x.ty != 2) = false) (y3 : (x.ty == 2) = true) (hp : isP x.pr = true) (p0 : (x.pr != 0) = false) (d1 : decide (x.qt < 1) = true) (he : rfd m L x = 95) :
    Calls Tryz.prog 10 #[.agg #[.int .i64 r, .int .i64 m, .slice p L.length c], .agg #[.int .u64 x.id, .int .u32 x.mb, .int .i64 x.sd, .int .i64 x.ty, .int .i64 x.pr, .int .u64 x.qt]] w fun e w' => e = .returned (.tuple #[.agg #[.int .i64 r, .int .i64 m, .slice p L.length c], .int .i64 (rfd m L x)]) ∧ Below w.heap.size w w' := by
  rw [he]
  clear he
  have CT := hid (fun U => tick_any x.pr U)
  have CP := hid (fun (U : World) (hU : Below w.heap.size w U) => rplace_any r m x.id p c L U (h.on hU) hn)
  obtain ⟨n, hnn⟩ : ∃ n, L.length = n := ⟨_, rfl⟩
  rw [hnn] at hn CP ⊢
  rw [hp] at CT
  clear hp
  obtain ⟨R, hR⟩ : ∃ R, w.heap.size = R := ⟨_, rfl⟩
  obtain ⟨W, hW⟩ : ∃ W, ((w.alloc (.cells #[.int .i64 r, .int .i64 m, .slice p n c] 29)).alloc (.cells #[.int .u64 x.id, .int .u32 x.mb, .int .i64 x.sd, .int .i64 x.ty, .int .i64 x.pr, .int .u64 x.qt] 35)).alloc (.cells #[.int .i64 0, .int .i64 0, .slice none 0 0] 29) = W := ⟨_, rfl⟩
  have HE := hid (Et0.mk' hW hR)
  have HW := hid hW
  have HRR := hid hR
  obtain ⟨k0, k1, k2⟩ := row3 HE.out.a
  obtain ⟨i0, i1, i2, i3, i4, i5⟩ := row6 HE.out.b
  have CPW := hid (CP.out W HE.out.be)
  clear hW hR h hnn CP
  go_enter Tryz.func10, Tryz.ntmps10
  go_upto_region 1 with fail
  rw [HW.out, HRR.out]
  go_upto_region 8 with (go_at_call 27; with_reducible refine (CT.out _).mono ?_; rintro e u1 ⟨rfl, rfl⟩)
  have HEU := HE
  have AS := hid (show (#[.int .i64 0, .int .i64 0, .slice none 0 0] : Array Value).size = (#[.int .i64 r, .int .i64 m, .slice p n c] : Array Value).size from rfl)
  have AA := hid (show (#[.int .i64 r, .int .i64 m, .slice p n c] : Array Value).all (·.oneCell') = true from by simp [Value.oneCell'])
  go_wp2_with (refine wpList_store_row (by rfl) 29 (.tmp 4) (.tmp 51) (by rfl) (R + 2) #[.int .i64 r, .int .i64 m, .slice p n c] (by rfl) (by rfl) 29 _ HEU.out.z infoRc AS.out AA.out ?_)
  refine bodyPost_ret (res_ct (fn := Tryz.f10) Tryz.results10 _ _ (R + 2) 29 #[.int .i64 r, .int .i64 m, .slice p n c] (0, 0) _ (.int .i64 95) (by rfl) (by rfl) (setRow_heap _ _ _ _ 29 (0, 0) HEU.out.z) Tryz.underlying29 rfl infoR) rfl ⟨rfl, ?_⟩
  exact setRow_below HEU.out.be (by have := HRR.out; omega)
theorem re95b_22 (r m : Int) (p : Option Addr) (c : Nat) (L : List It) (x : It) (w : World) (h : Li w p c L) (hn : L.length ≤ 4096) (s1 : (x.sd != 1) = true) (s2 : (x.sd != 2) = false) (y1 : (x.ty != 1) = true) (y2 : (x.ty != 2) = false) (y3 : (x.ty == 2) = true) (hp : isP x.pr = true) (p0 : (x.pr != 0) = false) (d1 : decide (x.qt < 1) = false) (d2 : decide (4294967295 < x.qt) = true) (he : rfd m L x = 95) :
    Calls Tryz.prog 10 #[.agg #[.int .i64 r, .int .i64 m, .slice p L.length c], .agg #[.int .u64 x.id, .int .u32 x.mb, .int .i64 x.sd, .int .i64 x.ty, .int .i64 x.pr, .int .u64 x.qt]] w fun e w' => e = .returned (.tuple #[.agg #[.int .i64 r, .int .i64 m, .slice p L.length c], .int .i64 (rfd m L x)]) ∧ Below w.heap.size w w' := by
  rw [he]
  clear he
  have CT := hid (fun U => tick_any x.pr U)
  have CP := hid (fun (U : World) (hU : Below w.heap.size w U) => rplace_any r m x.id p c L U (h.on hU) hn)
  obtain ⟨n, hnn⟩ : ∃ n, L.length = n := ⟨_, rfl⟩
  rw [hnn] at hn CP ⊢
  rw [hp] at CT
  clear hp
  obtain ⟨R, hR⟩ : ∃ R, w.heap.size = R := ⟨_, rfl⟩
  obtain ⟨W, hW⟩ : ∃ W, ((w.alloc (.cells #[.int .i64 r, .int .i64 m, .slice p n c] 29)).alloc (.cells #[.int .u64 x.id, .int .u32 x.mb, .int .i64 x.sd, .int .i64 x.ty, .int .i64 x.pr, .int .u64 x.qt] 35)).alloc (.cells #[.int .i64 0, .int .i64 0, .slice none 0 0] 29) = W := ⟨_, rfl⟩
  have HE := hid (Et0.mk' hW hR)
  have HW := hid hW
  have HRR := hid hR
  obtain ⟨k0, k1, k2⟩ := row3 HE.out.a
  obtain ⟨i0, i1, i2, i3, i4, i5⟩ := row6 HE.out.b
  have CPW := hid (CP.out W HE.out.be)
  clear hW hR h hnn CP
  go_enter Tryz.func10, Tryz.ntmps10
  go_upto_region 1 with fail
  rw [HW.out, HRR.out]
  go_upto_region 8 with (go_at_call 27; with_reducible refine (CT.out _).mono ?_; rintro e u1 ⟨rfl, rfl⟩)
  have HEU := HE
  have AS := hid (show (#[.int .i64 0, .int .i64 0, .slice none 0 0] : Array Value).size = (#[.int .i64 r, .int .i64 m, .slice p n c] : Array Value).size from rfl)
  have AA := hid (show (#[.int .i64 r, .int .i64 m, .slice p n c] : Array Value).all (·.oneCell') = true from by simp [Value.oneCell'])
  go_wp2_with (refine wpList_store_row (by rfl) 29 (.tmp 4) (.tmp 51) (by rfl) (R + 2) #[.int .i64 r, .int .i64 m, .slice p n c] (by rfl) (by rfl) 29 _ HEU.out.z infoRc AS.out AA.out ?_)
  refine bodyPost_ret (res_ct (fn := Tryz.f10) Tryz.results10 _ _ (R + 2) 29 #[.int .i64 r, .int .i64 m, .slice p n c] (0, 0) _ (.int .i64 95) (by rfl) (by rfl) (setRow_heap _ _ _ _ 29 (0, 0) HEU.out.z) Tryz.underlying29 rfl infoR) rfl ⟨rfl, ?_⟩
  exact setRow_below HEU.out.be (by have := HRR.out; omega)
theorem re97a_22 (r m : Int) (p : Option Addr) (c : Nat) (L : List It) (x : It) (w : World) (h : Li w p c L) (hn : L.length ≤ 4096) (s1 : (x.sd != 1) = true) (s2 : (x.sd != 2) = false) (y1 : (x.ty != 1) = true) (y2 : (x.ty != 2) = false) (y3 : (x.ty == 2) = true) (hp : isP x.pr = true) (p0 : (x.pr != 0) = false) (d1 : decide (x.qt < 1) = false) (d2 : decide (4294967295 < x.qt) = false) (z1 : (x.id == 0) = true) (he : rfd m L x = 97) :
    Calls Tryz.prog 10 #[.agg #[.int .i64 r, .int .i64 m, .slice p L.length c], .agg #[.int .u64 x.id, .int .u32 x.mb, .int .i64 x.sd, .int .i64 x.ty, .int .i64 x.pr, .int .u64 x.qt]] w fun e w' => e = .returned (.tuple #[.agg #[.int .i64 r, .int .i64 m, .slice p L.length c], .int .i64 (rfd m L x)]) ∧ Below w.heap.size w w' := by
  rw [he]
  clear he
  have CT := hid (fun U => tick_any x.pr U)
  have CP := hid (fun (U : World) (hU : Below w.heap.size w U) => rplace_any r m x.id p c L U (h.on hU) hn)
  obtain ⟨n, hnn⟩ : ∃ n, L.length = n := ⟨_, rfl⟩
  rw [hnn] at hn CP ⊢
  rw [hp] at CT
  clear hp
  obtain ⟨R, hR⟩ : ∃ R, w.heap.size = R := ⟨_, rfl⟩
  obtain ⟨W, hW⟩ : ∃ W, ((w.alloc (.cells #[.int .i64 r, .int .i64 m, .slice p n c] 29)).alloc (.cells #[.int .u64 x.id, .int .u32 x.mb, .int .i64 x.sd, .int .i64 x.ty, .int .i64 x.pr, .int .u64 x.qt] 35)).alloc (.cells #[.int .i64 0, .int .i64 0, .slice none 0 0] 29) = W := ⟨_, rfl⟩
  have HE := hid (Et0.mk' hW hR)
  have HW := hid hW
  have HRR := hid hR
  obtain ⟨k0, k1, k2⟩ := row3 HE.out.a
  obtain ⟨i0, i1, i2, i3, i4, i5⟩ := row6 HE.out.b
  have CPW := hid (CP.out W HE.out.be)
  clear hW hR h hnn CP
  go_enter Tryz.func10, Tryz.ntmps10
  go_upto_region 1 with fail
  rw [HW.out, HRR.out]
  go_upto_region 10 with (first | (go_at_call 27; with_reducible refine (CT.out _).mono ?_; rintro e u1 ⟨rfl, rfl⟩) | (go_at_call 28; with_reducible refine (CPW.out).mono ?_; rintro e v1 ⟨rfl, hb⟩; have V1 := hid hb; obtain ⟨m0, m1, m2⟩ := row3 (HE.out.on hb).a; clear hb))
  have HEU := HE
  have AS := hid (show (#[.int .i64 0, .int .i64 0, .slice none 0 0] : Array Value).size = (#[.int .i64 r, .int .i64 m, .slice p n c] : Array Value).size from rfl)
  have AA := hid (show (#[.int .i64 r, .int .i64 m, .slice p n c] : Array Value).all (·.oneCell') = true from by simp [Value.oneCell'])
  go_wp2_with (refine wpList_store_row (by rfl) 29 (.tmp 4) (.tmp 63) (by rfl) (R + 2) #[.int .i64 r, .int .i64 m, .slice p n c] (by rfl) (by rfl) 29 _ HEU.out.z infoRc AS.out AA.out ?_)
  refine bodyPost_ret (res_ct (fn := Tryz.f10) Tryz.results10 _ _ (R + 2) 29 #[.int .i64 r, .int .i64 m, .slice p n c] (0, 0) _ (.int .i64 97) (by rfl) (by rfl) (setRow_heap _ _ _ _ 29 (0, 0) HEU.out.z) Tryz.underlying29 rfl infoR) rfl ⟨rfl, ?_⟩
  exact setRow_below HEU.out.be (by have := HRR.out; omega)
theorem re97b_22 (r m : Int) (p : Option Addr) (c : Nat) (L : List It) (x : It) (w : World) (h : Li w p c L) (hn : L.length ≤ 4096) (s1 : (x.sd != 1) = true) (s2 : (x.sd != 2) = false) (y1 : (x.ty != 1) = true) (y2 : (x.ty != 2) = false) (y3 : (x.ty == 2) = true) (hp : isP x.pr = true) (p0 : (x.pr != 0) = false) (d1 : decide (x.qt < 1) = false) (d2 : decide (4294967295 < x.qt) = false) (z1 : (x.id == 0) = false) (hf : 0 ≤ fni x.id L) (he : rfd m L x = 97) :
    Calls Tryz.prog 10 #[.agg #[.int .i64 r, .int .i64 m, .slice p L.length c], .agg #[.int .u64 x.id, .int .u32 x.mb, .int .i64 x.sd, .int .i64 x.ty, .int .i64 x.pr, .int .u64 x.qt]] w fun e w' => e = .returned (.tuple #[.agg #[.int .i64 r, .int .i64 m, .slice p L.length c], .int .i64 (rfd m L x)]) ∧ Below w.heap.size w w' := by
  rw [he]
  clear he
  have CT := hid (fun U => tick_any x.pr U)
  have CP := hid (fun (U : World) (hU : Below w.heap.size w U) => rplace_any r m x.id p c L U (h.on hU) hn)
  obtain ⟨n, hnn⟩ : ∃ n, L.length = n := ⟨_, rfl⟩
  rw [hnn] at hn CP ⊢
  obtain ⟨v, hv⟩ : ∃ v, fni x.id L = v := ⟨_, rfl⟩
  rw [hv] at CP hf
  clear hv
  rw [hp] at CT
  clear hp
  have d3 : decide (0 ≤ v) = true := decide_eq_true hf
  obtain ⟨R, hR⟩ : ∃ R, w.heap.size = R := ⟨_, rfl⟩
  obtain ⟨W, hW⟩ : ∃ W, ((w.alloc (.cells #[.int .i64 r, .int .i64 m, .slice p n c] 29)).alloc (.cells #[.int .u64 x.id, .int .u32 x.mb, .int .i64 x.sd, .int .i64 x.ty, .int .i64 x.pr, .int .u64 x.qt] 35)).alloc (.cells #[.int .i64 0, .int .i64 0, .slice none 0 0] 29) = W := ⟨_, rfl⟩
  have HE := hid (Et0.mk' hW hR)
  have HW := hid hW
  have HRR := hid hR
  obtain ⟨k0, k1, k2⟩ := row3 HE.out.a
  obtain ⟨i0, i1, i2, i3, i4, i5⟩ := row6 HE.out.b
  have CPW := hid (CP.out W HE.out.be)
  clear hW hR h hnn CP
  go_enter Tryz.func10, Tryz.ntmps10
  go_upto_region 1 with fail
  rw [HW.out, HRR.out]
  go_upto_region 10 with (first | (go_at_call 27; with_reducible refine (CT.out _).mono ?_; rintro e u1 ⟨rfl, rfl⟩) | (go_at_call 28; with_reducible refine (CPW.out).mono ?_; rintro e v1 ⟨rfl, hb⟩; have V1 := hid hb; obtain ⟨m0, m1, m2⟩ := row3 (HE.out.on hb).a; clear hb))
  have HEU := hid (HE.out.on V1.out)
  have AS := hid (show (#[.int .i64 0, .int .i64 0, .slice none 0 0] : Array Value).size = (#[.int .i64 r, .int .i64 m, .slice p n c] : Array Value).size from rfl)
  have AA := hid (show (#[.int .i64 r, .int .i64 m, .slice p n c] : Array Value).all (·.oneCell') = true from by simp [Value.oneCell'])
  go_wp2_with (refine wpList_store_row (by rfl) 29 (.tmp 4) (.tmp 63) (by rfl) (R + 2) #[.int .i64 r, .int .i64 m, .slice p n c] (by rfl) (by rfl) 29 _ HEU.out.z infoRc AS.out AA.out ?_)
  refine bodyPost_ret (res_ct (fn := Tryz.f10) Tryz.results10 _ _ (R + 2) 29 #[.int .i64 r, .int .i64 m, .slice p n c] (0, 0) _ (.int .i64 97) (by rfl) (by rfl) (setRow_heap _ _ _ _ 29 (0, 0) HEU.out.z) Tryz.underlying29 rfl infoR) rfl ⟨rfl, ?_⟩
  exact setRow_below HEU.out.be (by have := HRR.out; omega)
theorem re98_22 (r m : Int) (p : Option Addr) (c : Nat) (L : List It) (x : It) (w : World) (h : Li w p c L) (hn : L.length ≤ 4096) (s1 : (x.sd != 1) = true) (s2 : (x.sd != 2) = false) (y1 : (x.ty != 1) = true) (y2 : (x.ty != 2) = false) (y3 : (x.ty == 2) = true) (hp : isP x.pr = true) (p0 : (x.pr != 0) = false) (d1 : decide (x.qt < 1) = false) (d2 : decide (4294967295 < x.qt) = false) (z1 : (x.id == 0) = false) (hf : ¬ 0 ≤ fni x.id L) (hm : m ≤ (L.length : Int)) (he : rfd m L x = 98) :
    Calls Tryz.prog 10 #[.agg #[.int .i64 r, .int .i64 m, .slice p L.length c], .agg #[.int .u64 x.id, .int .u32 x.mb, .int .i64 x.sd, .int .i64 x.ty, .int .i64 x.pr, .int .u64 x.qt]] w fun e w' => e = .returned (.tuple #[.agg #[.int .i64 r, .int .i64 m, .slice p L.length c], .int .i64 (rfd m L x)]) ∧ Below w.heap.size w w' := by
  rw [he]
  clear he
  have CT := hid (fun U => tick_any x.pr U)
  have CP := hid (fun (U : World) (hU : Below w.heap.size w U) => rplace_any r m x.id p c L U (h.on hU) hn)
  obtain ⟨n, hnn⟩ : ∃ n, L.length = n := ⟨_, rfl⟩
  rw [hnn] at hn CP ⊢
  rw [hnn] at hm
  obtain ⟨v, hv⟩ : ∃ v, fni x.id L = v := ⟨_, rfl⟩
  rw [hv] at CP hf
  clear hv
  rw [hp] at CT
  clear hp
  have d3 : decide (0 ≤ v) = false := decide_eq_false hf
  have d4 : decide (m ≤ (n : Int)) = true := decide_eq_true hm
  obtain ⟨R, hR⟩ : ∃ R, w.heap.size = R := ⟨_, rfl⟩
  obtain ⟨W, hW⟩ : ∃ W, ((w.alloc (.cells #[.int .i64 r, .int .i64 m, .slice p n c] 29)).alloc (.cells #[.int .u64 x.id, .int .u32 x.mb, .int .i64 x.sd, .int .i64 x.ty, .int .i64 x.pr, .int .u64 x.qt] 35)).alloc (.cells #[.int .i64 0, .int .i64 0, .slice none 0 0] 29) = W := ⟨_, rfl⟩
  have HE := hid (Et0.mk' hW hR)
  have HW := hid hW
  have HRR := hid hR
  obtain ⟨k0, k1, k2⟩ := row3 HE.out.a
  obtain ⟨i0, i1, i2, i3, i4, i5⟩ := row6 HE.out.b
  have CPW := hid (CP.out W HE.out.be)
  clear hW hR h hnn CP
  go_enter Tryz.func10, Tryz.ntmps10
  go_upto_region 1 with fail
  rw [HW.out, HRR.out]
  go_upto_region 12 with (first | (go_at_call 27; with_reducible refine (CT.out _).mono ?_; rintro e u1 ⟨rfl, rfl⟩) | (go_at_call 28; with_reducible refine (CPW.out).mono ?_; rintro e v1 ⟨rfl, hb⟩; have V1 := hid hb; obtain ⟨m0, m1, m2⟩ := row3 (HE.out.on hb).a; clear hb))
  have HEU := hid (HE.out.on V1.out)
  have AS := hid (show (#[.int .i64 0, .int .i64 0, .slice none 0 0] : Array Value).size = (#[.int .i64 r, .int .i64 m, .slice p n c] : Array Value).size from rfl)
  have AA := hid (show (#[.int .i64 r, .int .i64 m, .slice p n c] : Array Value).all (·.oneCell') = true from by simp [Value.oneCell'])
  go_wp2_with (refine wpList_store_row (by rfl) 29 (.tmp 4) (.tmp 71) (by rfl) (R + 2) #[.int .i64 r, .int .i64 m, .slice p n c] (by rfl) (by rfl) 29 _ HEU.out.z infoRc AS.out AA.out ?_)
  refine bodyPost_ret (res_ct (fn := Tryz.f10) Tryz.results10 _ _ (R + 2) 29 #[.int .i64 r, .int .i64 m, .slice p n c] (0, 0) _ (.int .i64 98) (by rfl) (by rfl) (setRow_heap _ _ _ _ 29 (0, 0) HEU.out.z) Tryz.underlying29 rfl infoR) rfl ⟨rfl, ?_⟩
  exact setRow_below HEU.out.be (by have := HRR.out; omega)
end Go.Proofs.YtnmkfdndfhefiaaGreat
