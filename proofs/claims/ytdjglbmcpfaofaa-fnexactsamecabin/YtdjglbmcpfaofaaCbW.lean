/- The walk of the exact law over CabinOk. -/
import Derived.Test.YtdjglbmcpfaofaaRows
import Derived.Test.YtdjglbmcpfaofaaCbI
namespace Go.Proofs.Ytdjglbmcpfaofaa
open Go.RowKit
set_option linter.unusedSimpArgs false
set_option linter.unusedVariables false
set_option maxRecDepth 100000 in
theorem exec_load_cbLv {ρ : Operand → Value} {o : Oper} {x : Operand} (v : Cv) (g : Nat) (w : World) (h : w.heap[g]? = some (.cells #[.int .i64 v.le.total, .int .i64 v.le.free, .int .i64 v.le.held, .int .i64 v.le.sold, .int .i64 v.le.tied, .slice v.Q v.q.length v.qc, .slice v.A v.sp.length v.c] 50)) (ho : o.op = .load 50 x := by rfl) (hx : ρ x = .pointer (some ⟨g, 0, none⟩) := by rfl) :
    (execOp ρ o).run Try.prog w = .ok (.value (cvA v)) w := by
  have a0 := cell_of_row _ _ 0 _ _ _ h
  have a1 := cell_of_row _ _ 1 _ _ _ h
  have a2 := cell_of_row _ _ 2 _ _ _ h
  have a3 := cell_of_row _ _ 3 _ _ _ h
  have a4 := cell_of_row _ _ 4 _ _ _ h
  have a5 := cell_of_row _ _ 5 _ _ _ h
  have a6 := cell_of_row _ _ 6 _ _ _ h
  simp at a0 a1 a2 a3 a4 a5 a6
  unfold execOp
  rw [ho]
  simp [go_sem, hx, a0, a1, a2, a3, a4, a5, a6, cvA]
set_option maxRecDepth 100000 in
theorem exec_load_cbIv {ρ : Operand → Value} {o : Oper} {x : Operand} (v : Cv) (g : Nat) (w : World) (h : w.heap[g]? = some (.cells #[.int .i64 v.le.total, .int .i64 v.le.free, .int .i64 v.le.held, .int .i64 v.le.sold, .int .i64 v.le.tied, .slice v.Q v.q.length v.qc, .slice v.A v.sp.length v.c] 38)) (ho : o.op = .load 38 x := by rfl) (hx : ρ x = .pointer (some ⟨g, 0, none⟩) := by rfl) :
    (execOp ρ o).run Try.prog w = .ok (.value (cvA v)) w := by
  have a0 := cell_of_row _ _ 0 _ _ _ h
  have a1 := cell_of_row _ _ 1 _ _ _ h
  have a2 := cell_of_row _ _ 2 _ _ _ h
  have a3 := cell_of_row _ _ 3 _ _ _ h
  have a4 := cell_of_row _ _ 4 _ _ _ h
  have a5 := cell_of_row _ _ 5 _ _ _ h
  have a6 := cell_of_row _ _ 6 _ _ _ h
  simp at a0 a1 a2 a3 a4 a5 a6
  unfold execOp
  rw [ho]
  simp [go_sem, hx, a0, a1, a2, a3, a4, a5, a6, cvA]
set_option maxRecDepth 100000 in
set_option maxHeartbeats 6400000 in
theorem FnExactCabinOk_walk (v : Cv) (w : World) (hv : v.came) (hr : v.reads w) : Calls Try.prog 5 #[cvA v] w fun e w' => e = .returned (.bool true) ∧ Below w.heap.size w w' := by
  obtain ⟨U, hU⟩ : ∃ U, w.alloc (.cells #[.int .i64 v.le.total, .int .i64 v.le.free, .int .i64 v.le.held, .int .i64 v.le.sold, .int .i64 v.le.tied, .slice v.Q v.q.length v.qc, .slice v.A v.sp.length v.c] 50) = U := ⟨_, rfl⟩
  have bW : Below w.heap.size w U := by rw [← hU]; exact (Below.refl _ _).alloc (Nat.le_refl _) _
  have HA : U.heap[w.heap.size]? = some (.cells #[.int .i64 v.le.total, .int .i64 v.le.free, .int .i64 v.le.held, .int .i64 v.le.sold, .int .i64 v.le.tied, .slice v.Q v.q.length v.qc, .slice v.A v.sp.length v.c] 50) := by rw [← hU]; exact heap_new _ _
  have rV := hr.below bW
  have HU := Lib.hid hU
  clear hU hr
  have HHA := Lib.hid HA
  have HrV := Lib.hid rV
  have HbW := Lib.hid bW
  clear HA rV bW
  unfold cvA
  go_enter Try.func5, Try.ntmps5
  go_wp2_with fail
  rw [HU.out]
  have HA := HHA.out
  have rV := HrV.out
  have bW := HbW.out
  clear HHA HrV HbW
  refine (szCabin_any v 1048576 _ hv rV (by omega) (by omega)).mono ?_
  rintro e u0 ⟨⟨r, rfl, _, _, hr⟩, x0⟩
  have HA := blk_call HA x0
  have rV := rV.below x0
  have Z1 := x0.size
  try simp only [World.size_alloc] at Z1
  have bW := bW.trans (x0.mono bW.size)
  clear x0
  clear HU
  by_cases hz : r < 0
  · clear hr
    have HB := Lib.hid bW
    clear HA rV bW
    go_wp2
    go_ret
    exact ⟨rfl, HB.out⟩
  have hs := Lib.hid (hr (by omega))
  clear hr
  have hf := Lib.hid hv.fits
  obtain ⟨R, hR⟩ : ∃ R, cabB v.le v.q v.ls = R := ⟨_, rfl⟩
  have HR := Lib.hid hR
  have nB : (R != R) = false := by simp
  clear hR hv
  have q00 := cell_of_row _ _ 0 _ _ _ HA
  have q01 := cell_of_row _ _ 1 _ _ _ HA
  have q02 := cell_of_row _ _ 2 _ _ _ HA
  have q03 := cell_of_row _ _ 3 _ _ _ HA
  have q04 := cell_of_row _ _ 4 _ _ _ HA
  have q05 := cell_of_row _ _ 5 _ _ _ HA
  have q06 := cell_of_row _ _ 6 _ _ _ HA
  simp at q00 q01 q02 q03 q04 q05 q06
  have HHA := Lib.hid HA
  have HrV := Lib.hid rV
  have HbW := Lib.hid bW
  clear HA rV bW
  go_wp2_with fail
  have HA := HHA.out
  have rV := HrV.out
  have bW := HbW.out
  clear HHA HrV HbW
  clear q00 q01 q02 q03 q04 q05 q06
  refine (toCabin_any v _ hs.out rV).mono ?_
  rintro e u1 ⟨y1, rfl, l1, r1, x1⟩
  have HA := blk_call HA x1
  have rV := rV.below x1
  have Z2 := x1.size
  try simp only [World.size_alloc] at Z2
  have bW := bW.trans (x1.mono bW.size)
  clear x1
  have L1 := Lib.hid l1
  clear l1
  have HHA := Lib.hid HA
  have HrV := Lib.hid rV
  have Hr1 := Lib.hid r1
  have HbW := Lib.hid bW
  clear HA rV r1 bW
  go_wp2_with fail
  have HA := HHA.out
  have rV := HrV.out
  have r1 := Hr1.out
  have bW := HbW.out
  clear HHA HrV Hr1 HbW
  refine (cabinOk_spec y1 _ (hs.out.of L1.out) r1).mono ?_
  rintro e u2 ⟨rfl, x2⟩
  rw [cabB_like L1.out, HR.out]
  clear r1
  have HA := blk_call HA x2
  have rV := rV.below x2
  have Z3 := x2.size
  try simp only [World.size_alloc] at Z3
  have bW := bW.trans (x2.mono bW.size)
  clear x2
  clear L1
  have q00 := cell_of_row _ _ 0 _ _ _ HA
  have q01 := cell_of_row _ _ 1 _ _ _ HA
  have q02 := cell_of_row _ _ 2 _ _ _ HA
  have q03 := cell_of_row _ _ 3 _ _ _ HA
  have q04 := cell_of_row _ _ 4 _ _ _ HA
  have q05 := cell_of_row _ _ 5 _ _ _ HA
  have q06 := cell_of_row _ _ 6 _ _ _ HA
  simp at q00 q01 q02 q03 q04 q05 q06
  have HHA := Lib.hid HA
  have HrV := Lib.hid rV
  have HbW := Lib.hid bW
  clear HA rV bW
  go_wp2_with fail
  have HA := HHA.out
  have rV := HrV.out
  have bW := HbW.out
  clear HHA HrV HbW
  clear q00 q01 q02 q03 q04 q05 q06
  refine (toCabin_any v _ hs.out rV).mono ?_
  rintro e u3 ⟨y, rfl, l3, r3, x3⟩
  have HA := blk_call HA x3
  have rV := rV.below x3
  have Z4 := x3.size
  try simp only [World.size_alloc] at Z4
  have bW := bW.trans (x3.mono bW.size)
  clear x3
  have L3 := Lib.hid l3
  clear l3
  unfold cvA
  have HX := heap_new u3 (.cells #[.int .i64 y.le.total, .int .i64 y.le.free, .int .i64 y.le.held, .int .i64 y.le.sold, .int .i64 y.le.tied, .slice y.Q y.q.length y.qc, .slice y.A y.sp.length y.c] 38)
  have xa : Below u3.heap.size u3 (u3.alloc (.cells #[.int .i64 y.le.total, .int .i64 y.le.free, .int .i64 y.le.held, .int .i64 y.le.sold, .int .i64 y.le.tied, .slice y.Q y.q.length y.qc, .slice y.A y.sp.length y.c] 38)) := (Below.refl _ _).alloc (Nat.le_refl _) _
  have HA := blk_call HA xa
  have rV := rV.below xa
  have r3 := r3.below xa
  have Z5 := xa.size
  try simp only [World.size_alloc] at Z5
  have bW := bW.trans (xa.mono bW.size)
  clear xa
  have HHA := Lib.hid HA
  have HHX := Lib.hid HX
  have HrV := Lib.hid rV
  have Hr3 := Lib.hid r3
  have HbW := Lib.hid bW
  clear HA HX rV r3 bW
  go_wp2_with fail
  have HA := HHA.out
  have HX := HHX.out
  have rV := HrV.out
  have r3 := Hr3.out
  have bW := HbW.out
  clear HHA HHX HrV Hr3 HbW
  refine (cabinOk_impl y _ (hs.out.of L3.out) (hf.out.of L3.out) r3).mono ?_
  rintro e u4 ⟨rfl, x4⟩
  rw [cabB_like L3.out, HR.out]
  have HA := blk_call HA x4
  have HX := blk_call HX x4
  have rV := rV.below x4
  have r3 := r3.below x4
  have Z6 := x4.size
  try simp only [World.size_alloc] at Z6
  have bW := bW.trans (x4.mono bW.size)
  clear x4
  have HHA := Lib.hid HA
  have HHX := Lib.hid HX
  have HrV := Lib.hid rV
  have Hr3 := Lib.hid r3
  have HbW := Lib.hid bW
  clear HA HX rV r3 bW
  go_wp2_with fail
  have HA := HHA.out
  have HX := HHX.out
  have rV := HrV.out
  have r3 := Hr3.out
  have bW := HbW.out
  clear HHA HHX HrV Hr3 HbW
  refine wp_region_held_drew (S := fun w' => Hid (Below u4.heap.size u4 w')) (by kernel_rfl) (below_drawn (Below.refl _ _) 1) (fun hHeld => ?_)
  refine held_take 0 22 (cvA y) rfl rfl (by kernel_rfl) (by kernel_rfl) (by kernel_rfl) (fun _ _ _ h => h) rfl hHeld (fun w h => exec_load_cbIv y _ w (blk_call HX h.out)) ?_
  refine held_take 1 23 (cvA v) rfl rfl (by kernel_rfl) (by kernel_rfl) (by kernel_rfl) (fun _ _ _ h => h) rfl hHeld (fun w h => exec_load_cbLv v _ w (blk_call HA h.out)) ?_
  simp only [Act.put, List.setIfInBounds_toArray, List.set_cons_zero, List.set_cons_succ]
  refine held_call 2 24 28 #[cvA v] rfl rfl (by kernel_rfl) rfl (exec_call Try.func28 (by kernel_rfl) (by kernel_rfl) _) ?_
  refine (toCabin_any v _ hs.out (rV.below hHeld.out)).mono ?_
  rintro e lastv1 ⟨y9, rfl, l9, r9, x5⟩
  have b1 : Hid (Below u4.heap.size u4 lastv1) := hHeld.out.trans (x5.mono hHeld.out.size)
  refine ⟨_, rfl, b1, ?_⟩
  simp only [Act.put, List.setIfInBounds_toArray, List.set_cons_zero, List.set_cons_succ]
  refine held_call 3 25 23 #[cvA y, cvA y9] rfl rfl (by kernel_rfl) rfl (exec_call Try.func23 (by kernel_rfl) (by kernel_rfl) _) ?_
  refine (eqCabin_same y y9 _ (hs.out.of L3.out) (L3.out.trans l9.symm) (r3.below b1.out) r9).mono ?_
  rintro e lastv2 ⟨rfl, x6⟩
  have b2 : Hid (Below u4.heap.size u4 lastv2) := b1.out.trans (x6.mono b1.out.size)
  refine ⟨_, rfl, b2, ?_⟩
  simp only [Act.put, List.setIfInBounds_toArray, List.set_cons_zero, List.set_cons_succ]
  refine held_take 4 26 (.bool false) rfl rfl (by kernel_rfl) (by kernel_rfl) (by kernel_rfl) (fun _ _ _ h => h) rfl b2 (fun w _ => rfl) ?_
  simp only [Act.put, List.setIfInBounds_toArray, List.set_cons_zero, List.set_cons_succ]
  refine wpAnyH_done (by kernel_rfl) ?_ _
  clear r9 l9
  have HB := Lib.hid (bW.trans (b2.out.mono bW.size))
  clear b2 b1 x5 x6 hHeld HX HA rV r3 bW
  go_wp2
  go_ret
  exact ⟨rfl, HB.out⟩
end Go.Proofs.Ytdjglbmcpfaofaa
