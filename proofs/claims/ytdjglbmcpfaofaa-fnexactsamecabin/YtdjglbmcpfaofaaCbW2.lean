/- The walk of the exact law over SameCabin. -/
import Derived.Test.YtdjglbmcpfaofaaRows
import Derived.Test.YtdjglbmcpfaofaaCbW
import Derived.Test.YtdjglbmcpfaofaaCbS
namespace Go.Proofs.Ytdjglbmcpfaofaa
open Go.RowKit
set_option linter.unusedSimpArgs false
set_option linter.unusedVariables false
theorem sameC_like {a b c d : Cv} (h : c.like a) (k : d.like b) : sameC c.le d.le c.q d.q c.ls d.ls = sameC a.le b.le a.q b.q a.ls b.ls := by rw [h.le, h.q, h.ls, k.le, k.q, k.ls]
set_option maxRecDepth 100000 in
set_option maxHeartbeats 6400000 in
theorem FnExactSameCabin_walk (v u : Cv) (w : World) (hv : v.came) (hr : v.reads w) (hv2 : u.came) (hr2 : u.reads w) : Calls Try.prog 10 #[cvA v, cvA u] w fun e w' => e = .returned (.bool true) ∧ Below w.heap.size w w' := by
  obtain ⟨U, hU⟩ : ∃ U, (w.alloc (.cells #[.int .i64 v.le.total, .int .i64 v.le.free, .int .i64 v.le.held, .int .i64 v.le.sold, .int .i64 v.le.tied, .slice v.Q v.q.length v.qc, .slice v.A v.sp.length v.c] 50)).alloc (.cells #[.int .i64 u.le.total, .int .i64 u.le.free, .int .i64 u.le.held, .int .i64 u.le.sold, .int .i64 u.le.tied, .slice u.Q u.q.length u.qc, .slice u.A u.sp.length u.c] 50) = U := ⟨_, rfl⟩
  have bW : Below w.heap.size w U := by rw [← hU]; exact ((Below.refl _ _).alloc (Nat.le_refl _) _).alloc (by simp) _
  have HA : U.heap[w.heap.size]? = some (.cells #[.int .i64 v.le.total, .int .i64 v.le.free, .int .i64 v.le.held, .int .i64 v.le.sold, .int .i64 v.le.tied, .slice v.Q v.q.length v.qc, .slice v.A v.sp.length v.c] 50) := by rw [← hU]; exact blk_alloc (heap_new _ _) _
  have HB : U.heap[w.heap.size + 1]? = some (.cells #[.int .i64 u.le.total, .int .i64 u.le.free, .int .i64 u.le.held, .int .i64 u.le.sold, .int .i64 u.le.tied, .slice u.Q u.q.length u.qc, .slice u.A u.sp.length u.c] 50) := by
    rw [← hU]
    have := heap_new (w.alloc (.cells #[.int .i64 v.le.total, .int .i64 v.le.free, .int .i64 v.le.held, .int .i64 v.le.sold, .int .i64 v.le.tied, .slice v.Q v.q.length v.qc, .slice v.A v.sp.length v.c] 50)) (.cells #[.int .i64 u.le.total, .int .i64 u.le.free, .int .i64 u.le.held, .int .i64 u.le.sold, .int .i64 u.le.tied, .slice u.Q u.q.length u.qc, .slice u.A u.sp.length u.c] 50)
    simpa using this
  have rV := hr.below bW
  have rU := hr2.below bW
  have HU := Lib.hid hU
  clear hU hr hr2
  have HHA := Lib.hid HA
  have HHB := Lib.hid HB
  have HrV := Lib.hid rV
  have HrU := Lib.hid rU
  have HbW := Lib.hid bW
  clear HA HB rV rU bW
  unfold cvA
  go_enter Try.func10, Try.ntmps10
  go_wp2_with fail
  rw [HU.out]
  have HA := HHA.out
  have HB := HHB.out
  have rV := HrV.out
  have rU := HrU.out
  have bW := HbW.out
  clear HHA HHB HrV HrU HbW
  refine (szCabin_any v 1048576 _ hv rV (by omega) (by omega)).mono ?_
  rintro e u0 ⟨⟨r, rfl, hr1, _, hr⟩, x0⟩
  have HA := blk_call HA x0
  have HB := blk_call HB x0
  have rV := rV.below x0
  have rU := rU.below x0
  have Z1 := x0.size
  try simp only [World.size_alloc] at Z1
  have bW := bW.trans (x0.mono bW.size)
  clear x0
  clear HU
  by_cases hz : r < 0
  · clear hr
    have HX := Lib.hid bW
    clear HA HB rV rU bW
    go_wp2
    go_ret
    exact ⟨rfl, HX.out⟩
  have hs := Lib.hid (hr (by omega))
  clear hr
  have q00 := cell_of_row _ _ 0 _ _ _ HB
  have q01 := cell_of_row _ _ 1 _ _ _ HB
  have q02 := cell_of_row _ _ 2 _ _ _ HB
  have q03 := cell_of_row _ _ 3 _ _ _ HB
  have q04 := cell_of_row _ _ 4 _ _ _ HB
  have q05 := cell_of_row _ _ 5 _ _ _ HB
  have q06 := cell_of_row _ _ 6 _ _ _ HB
  simp at q00 q01 q02 q03 q04 q05 q06
  have HHA := Lib.hid HA
  have HHB := Lib.hid HB
  have HrV := Lib.hid rV
  have HrU := Lib.hid rU
  have HbW := Lib.hid bW
  clear HA HB rV rU bW
  go_wp2_with fail
  have HA := HHA.out
  have HB := HHB.out
  have rV := HrV.out
  have rU := HrU.out
  have bW := HbW.out
  clear HHA HHB HrV HrU HbW
  clear q00 q01 q02 q03 q04 q05 q06
  refine (szCabin_any u r _ hv2 rU (by omega) hr1).mono ?_
  rintro e u1 ⟨⟨r2, rfl, hr3, _, hr⟩, x1⟩
  have HA := blk_call HA x1
  have HB := blk_call HB x1
  have rV := rV.below x1
  have rU := rU.below x1
  have Z2 := x1.size
  try simp only [World.size_alloc] at Z2
  have bW := bW.trans (x1.mono bW.size)
  clear x1
  by_cases hz2 : r2 < 0
  · clear hr
    have HX := Lib.hid bW
    clear HA HB rV rU bW
    go_wp2
    go_ret
    exact ⟨rfl, HX.out⟩
  have hs2 := Lib.hid (hr (by omega))
  clear hr
  have hf := Lib.hid hv.fits
  have hf2 := Lib.hid hv2.fits
  obtain ⟨R, hR⟩ : ∃ R, sameC v.le u.le v.q u.q v.ls u.ls = R := ⟨_, rfl⟩
  have HR := Lib.hid hR
  have nB : (R != R) = false := by simp
  clear hR hv hv2
  have HHA := Lib.hid HA
  have HHB := Lib.hid HB
  have HrV := Lib.hid rV
  have HrU := Lib.hid rU
  have HbW := Lib.hid bW
  clear HA HB rV rU bW
  go_wp2_with fail
  have HA := HHA.out
  have HB := HHB.out
  have rV := HrV.out
  have rU := HrU.out
  have bW := HbW.out
  clear HHA HHB HrV HrU HbW
  refine wp_region_held_drew (S := fun w' => Hid (Below u1.heap.size u1 w')) (by kernel_rfl) (below_drawn (Below.refl _ _) 1) (fun hHeld => ?_)
  refine held_take 0 20 (cvA v) rfl rfl (by kernel_rfl) (by kernel_rfl) (by kernel_rfl) (fun _ _ _ h => h) rfl hHeld (fun w h => exec_load_cbLv v _ w (blk_call HA h.out)) ?_
  refine held_take 2 22 (cvA u) rfl rfl (by kernel_rfl) (by kernel_rfl) (by kernel_rfl) (fun _ _ _ h => h) rfl hHeld (fun w h => exec_load_cbLv u _ w (blk_call HB h.out)) ?_
  simp only [Act.put, List.setIfInBounds_toArray, List.set_cons_zero, List.set_cons_succ]
  refine held_call 1 21 28 #[cvA v] rfl rfl (by kernel_rfl) rfl (exec_call Try.func28 (by kernel_rfl) (by kernel_rfl) _) ?_
  refine (toCabin_any v _ hs.out (rV.below hHeld.out)).mono ?_
  rintro e v1 ⟨y1, rfl, l1, s1, x5⟩
  have b1 : Hid (Below u1.heap.size u1 v1) := hHeld.out.trans (x5.mono hHeld.out.size)
  refine ⟨_, rfl, b1, ?_⟩
  simp only [Act.put, List.setIfInBounds_toArray, List.set_cons_zero, List.set_cons_succ]
  refine held_call 3 23 28 #[cvA u] rfl rfl (by kernel_rfl) rfl (exec_call Try.func28 (by kernel_rfl) (by kernel_rfl) _) ?_
  refine (toCabin_any u _ hs2.out (rU.below b1.out)).mono ?_
  rintro e v2 ⟨y2, rfl, l2, s2, x6⟩
  have b2 : Hid (Below u1.heap.size u1 v2) := b1.out.trans (x6.mono b1.out.size)
  refine ⟨_, rfl, b2, ?_⟩
  simp only [Act.put, List.setIfInBounds_toArray, List.set_cons_zero, List.set_cons_succ]
  refine held_call 4 24 38 #[cvA y1, cvA y2] rfl rfl (by kernel_rfl) rfl (exec_call Try.func38 (by kernel_rfl) (by kernel_rfl) _) ?_
  refine (sameCabin_spec y1 y2 _ (hs.out.of l1) (hs2.out.of l2) (s1.below x6) s2).mono ?_
  rintro e v3 ⟨rfl, x7⟩
  rw [sameC_like l1 l2, HR.out]
  have b3 : Hid (Below u1.heap.size u1 v3) := b2.out.trans (x7.mono b2.out.size)
  refine ⟨_, rfl, b3, ?_⟩
  simp only [Act.put, List.setIfInBounds_toArray, List.set_cons_zero, List.set_cons_succ]
  refine held_op 5 6 (.bool R) rfl rfl (by kernel_rfl) rfl rfl b3 ?_
  simp only [Act.put, List.setIfInBounds_toArray, List.set_cons_zero, List.set_cons_succ]
  refine wpAnyH_done (by kernel_rfl) ?_ _
  have x8 := b3.out
  clear b1 b2 b3 x5 x6 x7 hHeld l1 l2 s1 s2
  have HA := blk_call HA x8
  have HB := blk_call HB x8
  have rV := rV.below x8
  have rU := rU.below x8
  have Z3 := x8.size
  try simp only [World.size_alloc] at Z3
  have bW := bW.trans (x8.mono bW.size)
  clear x8
  have q00 := cell_of_row _ _ 0 _ _ _ HA
  have q01 := cell_of_row _ _ 1 _ _ _ HA
  have q02 := cell_of_row _ _ 2 _ _ _ HA
  have q03 := cell_of_row _ _ 3 _ _ _ HA
  have q04 := cell_of_row _ _ 4 _ _ _ HA
  have q05 := cell_of_row _ _ 5 _ _ _ HA
  have q06 := cell_of_row _ _ 6 _ _ _ HA
  simp at q00 q01 q02 q03 q04 q05 q06
  have HHA := Lib.hid HA
  have HHB := Lib.hid HB
  have HrV := Lib.hid rV
  have HrU := Lib.hid rU
  have HbW := Lib.hid bW
  clear HA HB rV rU bW
  go_wp2_with fail
  have HA := HHA.out
  have HB := HHB.out
  have rV := HrV.out
  have rU := HrU.out
  have bW := HbW.out
  clear HHA HHB HrV HrU HbW
  clear q00 q01 q02 q03 q04 q05 q06
  refine (toCabin_any v _ hs.out rV).mono ?_
  rintro e u3 ⟨y, rfl, l3, ry, x3⟩
  have HA := blk_call HA x3
  have HB := blk_call HB x3
  have rV := rV.below x3
  have rU := rU.below x3
  have Z4 := x3.size
  try simp only [World.size_alloc] at Z4
  have bW := bW.trans (x3.mono bW.size)
  clear x3
  have L3 := Lib.hid l3
  clear l3
  unfold cvA
  have HX := heap_new u3 (.cells #[.int .i64 y.le.total, .int .i64 y.le.free, .int .i64 y.le.held, .int .i64 y.le.sold, .int .i64 y.le.tied, .slice y.Q y.q.length y.qc, .slice y.A y.sp.length y.c] 38)
  have xa : Below u3.heap.size u3 (u3.alloc (.cells #[.int .i64 y.le.total, .int .i64 y.le.free, .int .i64 y.le.held, .int .i64 y.le.sold, .int .i64 y.le.tied, .slice y.Q y.q.length y.qc, .slice y.A y.sp.length y.c] 38)) := (Below.refl _ _).alloc (Nat.le_refl _) _
  have HA := blk_call HA xa
  have HB := blk_call HB xa
  have rV := rV.below xa
  have rU := rU.below xa
  have ry := ry.below xa
  have Z5 := xa.size
  try simp only [World.size_alloc] at Z5
  have bW := bW.trans (xa.mono bW.size)
  clear xa
  have q00 := cell_of_row _ _ 0 _ _ _ HB
  have q01 := cell_of_row _ _ 1 _ _ _ HB
  have q02 := cell_of_row _ _ 2 _ _ _ HB
  have q03 := cell_of_row _ _ 3 _ _ _ HB
  have q04 := cell_of_row _ _ 4 _ _ _ HB
  have q05 := cell_of_row _ _ 5 _ _ _ HB
  have q06 := cell_of_row _ _ 6 _ _ _ HB
  simp at q00 q01 q02 q03 q04 q05 q06
  have HHA := Lib.hid HA
  have HHB := Lib.hid HB
  have HHX := Lib.hid HX
  have HrV := Lib.hid rV
  have HrU := Lib.hid rU
  have Hry := Lib.hid ry
  have HbW := Lib.hid bW
  clear HA HB HX rV rU ry bW
  go_wp2_with fail
  have HA := HHA.out
  have HB := HHB.out
  have HX := HHX.out
  have rV := HrV.out
  have rU := HrU.out
  have ry := Hry.out
  have bW := HbW.out
  clear HHA HHB HHX HrV HrU Hry HbW
  clear q00 q01 q02 q03 q04 q05 q06
  refine (toCabin_any u _ hs2.out rU).mono ?_
  rintro e u4 ⟨z, rfl, l4, rz, x4⟩
  have HA := blk_call HA x4
  have HB := blk_call HB x4
  have HX := blk_call HX x4
  have rV := rV.below x4
  have rU := rU.below x4
  have ry := ry.below x4
  have Z6 := x4.size
  try simp only [World.size_alloc] at Z6
  have bW := bW.trans (x4.mono bW.size)
  clear x4
  have L4 := Lib.hid l4
  clear l4
  unfold cvA
  have HY := heap_new u4 (.cells #[.int .i64 z.le.total, .int .i64 z.le.free, .int .i64 z.le.held, .int .i64 z.le.sold, .int .i64 z.le.tied, .slice z.Q z.q.length z.qc, .slice z.A z.sp.length z.c] 38)
  have xa : Below u4.heap.size u4 (u4.alloc (.cells #[.int .i64 z.le.total, .int .i64 z.le.free, .int .i64 z.le.held, .int .i64 z.le.sold, .int .i64 z.le.tied, .slice z.Q z.q.length z.qc, .slice z.A z.sp.length z.c] 38)) := (Below.refl _ _).alloc (Nat.le_refl _) _
  have HA := blk_call HA xa
  have HB := blk_call HB xa
  have HX := blk_call HX xa
  have rV := rV.below xa
  have rU := rU.below xa
  have ry := ry.below xa
  have rz := rz.below xa
  have Z7 := xa.size
  try simp only [World.size_alloc] at Z7
  have bW := bW.trans (xa.mono bW.size)
  clear xa
  have q00 := cell_of_row _ _ 0 _ _ _ HX
  have q01 := cell_of_row _ _ 1 _ _ _ HX
  have q02 := cell_of_row _ _ 2 _ _ _ HX
  have q03 := cell_of_row _ _ 3 _ _ _ HX
  have q04 := cell_of_row _ _ 4 _ _ _ HX
  have q05 := cell_of_row _ _ 5 _ _ _ HX
  have q06 := cell_of_row _ _ 6 _ _ _ HX
  simp at q00 q01 q02 q03 q04 q05 q06
  have HHA := Lib.hid HA
  have HHB := Lib.hid HB
  have HHX := Lib.hid HX
  have HHY := Lib.hid HY
  have HrV := Lib.hid rV
  have HrU := Lib.hid rU
  have Hry := Lib.hid ry
  have Hrz := Lib.hid rz
  have HbW := Lib.hid bW
  clear HA HB HX HY rV rU ry rz bW
  go_wp2_with fail
  have HA := HHA.out
  have HB := HHB.out
  have HX := HHX.out
  have HY := HHY.out
  have rV := HrV.out
  have rU := HrU.out
  have ry := Hry.out
  have rz := Hrz.out
  have bW := HbW.out
  clear HHA HHB HHX HHY HrV HrU Hry Hrz HbW
  clear q00 q01 q02 q03 q04 q05 q06
  refine (sameCabin_impl y z _ (hs.out.of L3.out) (hs2.out.of L4.out) (hf.out.of L3.out) (hf2.out.of L4.out) ry rz).mono ?_
  rintro e u5 ⟨rfl, x5⟩
  rw [sameC_like L3.out L4.out, HR.out]
  have HA := blk_call HA x5
  have HB := blk_call HB x5
  have HX := blk_call HX x5
  have HY := blk_call HY x5
  have rV := rV.below x5
  have rU := rU.below x5
  have ry := ry.below x5
  have rz := rz.below x5
  have Z8 := x5.size
  try simp only [World.size_alloc] at Z8
  have bW := bW.trans (x5.mono bW.size)
  clear x5
  have HHA := Lib.hid HA
  have HHB := Lib.hid HB
  have HHX := Lib.hid HX
  have HHY := Lib.hid HY
  have HrV := Lib.hid rV
  have HrU := Lib.hid rU
  have Hry := Lib.hid ry
  have Hrz := Lib.hid rz
  have HbW := Lib.hid bW
  clear HA HB HX HY rV rU ry rz bW
  go_wp2_with fail
  have HA := HHA.out
  have HB := HHB.out
  have HX := HHX.out
  have HY := HHY.out
  have rV := HrV.out
  have rU := HrU.out
  have ry := Hry.out
  have rz := Hrz.out
  have bW := HbW.out
  clear HHA HHB HHX HHY HrV HrU Hry Hrz HbW
  refine wp_region_held_drew (S := fun w' => Hid (Below u5.heap.size u5 w')) (by kernel_rfl) (below_drawn (Below.refl _ _) 1) (fun hHeld => ?_)
  refine held_take 0 35 (cvA y) rfl rfl (by kernel_rfl) (by kernel_rfl) (by kernel_rfl) (fun _ _ _ h => h) rfl hHeld (fun w h => exec_load_cbIv y _ w (blk_call HX h.out)) ?_
  refine held_take 1 36 (cvA v) rfl rfl (by kernel_rfl) (by kernel_rfl) (by kernel_rfl) (fun _ _ _ h => h) rfl hHeld (fun w h => exec_load_cbLv v _ w (blk_call HA h.out)) ?_
  simp only [Act.put, List.setIfInBounds_toArray, List.set_cons_zero, List.set_cons_succ]
  refine held_call 2 37 28 #[cvA v] rfl rfl (by kernel_rfl) rfl (exec_call Try.func28 (by kernel_rfl) (by kernel_rfl) _) ?_
  refine (toCabin_any v _ hs.out (rV.below hHeld.out)).mono ?_
  rintro e av1 ⟨y9, rfl, l9, r9, x5⟩
  have b1 : Hid (Below u5.heap.size u5 av1) := hHeld.out.trans (x5.mono hHeld.out.size)
  refine ⟨_, rfl, b1, ?_⟩
  simp only [Act.put, List.setIfInBounds_toArray, List.set_cons_zero, List.set_cons_succ]
  refine held_call 3 38 23 #[cvA y, cvA y9] rfl rfl (by kernel_rfl) rfl (exec_call Try.func23 (by kernel_rfl) (by kernel_rfl) _) ?_
  refine (eqCabin_same y y9 _ (hs.out.of L3.out) (L3.out.trans l9.symm) (ry.below b1.out) r9).mono ?_
  rintro e av2 ⟨rfl, x6⟩
  have b2 : Hid (Below u5.heap.size u5 av2) := b1.out.trans (x6.mono b1.out.size)
  refine ⟨_, rfl, b2, ?_⟩
  simp only [Act.put, List.setIfInBounds_toArray, List.set_cons_zero, List.set_cons_succ]
  refine held_take 4 39 (.bool false) rfl rfl (by kernel_rfl) (by kernel_rfl) (by kernel_rfl) (fun _ _ _ h => h) rfl b2 (fun w _ => rfl) ?_
  simp only [Act.put, List.setIfInBounds_toArray, List.set_cons_zero, List.set_cons_succ]
  refine wpAnyH_done (by kernel_rfl) ?_ _
  clear r9 l9
  have x8 := b2.out
  clear b2 b1 x5 x6 hHeld
  have HA := blk_call HA x8
  have HB := blk_call HB x8
  have HX := blk_call HX x8
  have HY := blk_call HY x8
  have rV := rV.below x8
  have rU := rU.below x8
  have ry := ry.below x8
  have rz := rz.below x8
  have Z9 := x8.size
  try simp only [World.size_alloc] at Z9
  have bW := bW.trans (x8.mono bW.size)
  clear x8
  have HHA := Lib.hid HA
  have HHB := Lib.hid HB
  have HHX := Lib.hid HX
  have HHY := Lib.hid HY
  have HrV := Lib.hid rV
  have HrU := Lib.hid rU
  have Hry := Lib.hid ry
  have Hrz := Lib.hid rz
  have HbW := Lib.hid bW
  clear HA HB HX HY rV rU ry rz bW
  go_wp2_with fail
  have HA := HHA.out
  have HB := HHB.out
  have HX := HHX.out
  have HY := HHY.out
  have rV := HrV.out
  have rU := HrU.out
  have ry := Hry.out
  have rz := Hrz.out
  have bW := HbW.out
  clear HHA HHB HHX HHY HrV HrU Hry Hrz HbW
  refine wp_region_held_drew (S := fun w' => Hid (Below av2.heap.size av2 w')) (by kernel_rfl) (below_drawn (Below.refl _ _) 1) (fun hHeld => ?_)
  refine held_take 0 40 (cvA z) rfl rfl (by kernel_rfl) (by kernel_rfl) (by kernel_rfl) (fun _ _ _ h => h) rfl hHeld (fun w h => exec_load_cbIv z _ w (blk_call HY h.out)) ?_
  refine held_take 1 41 (cvA u) rfl rfl (by kernel_rfl) (by kernel_rfl) (by kernel_rfl) (fun _ _ _ h => h) rfl hHeld (fun w h => exec_load_cbLv u _ w (blk_call HB h.out)) ?_
  simp only [Act.put, List.setIfInBounds_toArray, List.set_cons_zero, List.set_cons_succ]
  refine held_call 2 42 28 #[cvA u] rfl rfl (by kernel_rfl) rfl (exec_call Try.func28 (by kernel_rfl) (by kernel_rfl) _) ?_
  refine (toCabin_any u _ hs2.out (rU.below hHeld.out)).mono ?_
  rintro e bv1 ⟨y9, rfl, l9, r9, x5⟩
  have b1 : Hid (Below av2.heap.size av2 bv1) := hHeld.out.trans (x5.mono hHeld.out.size)
  refine ⟨_, rfl, b1, ?_⟩
  simp only [Act.put, List.setIfInBounds_toArray, List.set_cons_zero, List.set_cons_succ]
  refine held_call 3 43 23 #[cvA z, cvA y9] rfl rfl (by kernel_rfl) rfl (exec_call Try.func23 (by kernel_rfl) (by kernel_rfl) _) ?_
  refine (eqCabin_same z y9 _ (hs2.out.of L4.out) (L4.out.trans l9.symm) (rz.below b1.out) r9).mono ?_
  rintro e bv2 ⟨rfl, x6⟩
  have b2 : Hid (Below av2.heap.size av2 bv2) := b1.out.trans (x6.mono b1.out.size)
  refine ⟨_, rfl, b2, ?_⟩
  simp only [Act.put, List.setIfInBounds_toArray, List.set_cons_zero, List.set_cons_succ]
  refine held_take 4 44 (.bool false) rfl rfl (by kernel_rfl) (by kernel_rfl) (by kernel_rfl) (fun _ _ _ h => h) rfl b2 (fun w _ => rfl) ?_
  simp only [Act.put, List.setIfInBounds_toArray, List.set_cons_zero, List.set_cons_succ]
  refine wpAnyH_done (by kernel_rfl) ?_ _
  clear r9 l9
  have HZ := Lib.hid (bW.trans (b2.out.mono bW.size))
  clear b2 b1 x5 x6 hHeld HX HY HA HB rV rU ry rz bW
  go_wp2
  go_ret
  exact ⟨rfl, HZ.out⟩
end Go.Proofs.Ytdjglbmcpfaofaa
