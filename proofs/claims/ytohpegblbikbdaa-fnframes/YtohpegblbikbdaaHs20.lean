/- CabinNew of the model. -/
import Derived.Test.YtohpegblbikbdaaRows
import Derived.Test.YtohpegblbikbdaaHs19
import Derived.Test.YtohpegblbikbdaaLateF
namespace Go.Proofs.Ytohpegblbikbdaa
open Go.RowKit
set_option linter.unusedSimpArgs false
set_option linter.unusedVariables false
set_option maxRecDepth 100000 in
theorem exec_load_le {ρ : Operand → Value} {o : Oper} {x : Operand} (b : Nat) (l : Le) (w : World) (h : Le.here w b 0 l) (ho : o.op = .load 83 x := by rfl) (hx : ρ x = .pointer (some ⟨b, 0, none⟩) := by rfl) :
    (execOp ρ o).run Try.prog w = .ok (.value (leA l)) w := by
  obtain ⟨h0, h1, h2, h3, h4⟩ := h
  unfold execOp
  rw [ho]
  simp at h0 h1 h2 h3 h4
  simp [go_sem, hx, h0, h1, h2, h3, h4, leA]
set_option maxRecDepth 100000 in
theorem exec_build_cb2 {ρ : Operand → Value} {o : Oper} {x z : Operand} (c : Cb) (w : World) (hq : c.q = none) (hq1 : c.qn = 0) (hq2 : c.qc = 0) (ho : o.op = .build 89 #[(0, x), (2, z)] := by rfl) (hx : ρ x = leA c.le := by rfl) (hz : ρ z = .agg #[.slice c.p c.pn c.pc] := by rfl) :
    (execOp ρ o).run Try.prog w = .ok (.value (cbA c)) w := by
  unfold execOp
  rw [ho]
  simp [go_sem, hx, hz, leA, cbA, hq, hq1, hq2]
def GotCb (w : World) (e : Ending) (w' : World) : Prop := (∃ x b, e = .returned (.tuple #[cbA x, .bool b])) ∧ Below w.heap.size w w'
set_option maxRecDepth 100000 in
set_option maxHeartbeats 3200000 in
theorem cabinNew_any (t : Int) (w : World) (ht : 1 ≤ t ∧ t ≤ 60) : Calls Try.prog 56 #[.int .i64 t] w (GotCb w) := by
  have b0 : Below w.heap.size w (w.alloc (.cells #[.int .i64 0, .int .i64 0, .int .i64 0, .int .i64 0, .int .i64 0, .slice none 0 0, .slice none 0 0] 89)) := (Below.refl _ _).alloc (Nat.le_refl _) _
  have CL := Lib.hid (ledgerNew_spec t (w.alloc (.cells #[.int .i64 0, .int .i64 0, .int .i64 0, .int .i64 0, .int .i64 0, .slice none 0 0, .slice none 0 0] 89)))
  obtain ⟨l, el⟩ : ∃ l, (ledgerNewV t).1 = l := ⟨_, rfl⟩
  have ed : (ledgerNewV t).2 = true := by unfold ledgerNewV; rw [if_pos ht]
  rw [el, ed] at CL
  clear el ed b0
  unfold leA at CL
  go_enter Try.func56, Try.ntmps56
  go_wp2_with fail
  refine CL.out.mono ?_
  rintro e w1 ⟨rfl, b1⟩
  have hC : w1.heap[w.heap.size]? = some (.cells #[.int .i64 0, .int .i64 0, .int .i64 0, .int .i64 0, .int .i64 0, .slice none 0 0, .slice none 0 0] 89) := blk_call (heap_new _ _) b1
  have bW := boxB _ _ _ b1
  have hC2 := blk_alloc hC (.cells #[.int .i64 l.total, .int .i64 l.free, .int .i64 l.held, .int .i64 l.sold, .int .i64 l.tied] 83)
  have hL2 := heap_new w1 (.cells #[.int .i64 l.total, .int .i64 l.free, .int .i64 l.held, .int .i64 l.sold, .int .i64 l.tied] 83)
  have bW2 := bW.alloc bW.size (.cells #[.int .i64 l.total, .int .i64 l.free, .int .i64 l.held, .int .i64 l.sold, .int .i64 l.tied] 83)
  obtain ⟨U, eU⟩ : ∃ U, w1.alloc (.cells #[.int .i64 l.total, .int .i64 l.free, .int .i64 l.held, .int .i64 l.sold, .int .i64 l.tied] 83) = U := ⟨_, rfl⟩
  rw [eU] at hC2 hL2 bW2
  have HU := Lib.hid eU
  have ltC : w.heap.size < w1.heap.size := blk_lt hC
  clear b1 CL eU
  have KL := Lib.hid (fun w' (h : Below U.heap.size U w') => Le.here.blk (blk_call hL2 h))
  have HC := Lib.hid hC2
  have HB := Lib.hid bW2
  clear hC bW hC2 hL2 bW2
  go_wp2_with fail
  rw [HU.out]
  refine wp_region_F 3 (fun w' => Hid (Below U.heap.size U w')) (by kernel_rfl) ?_
  have hH0 : Hid (Below U.heap.size U U.drew) := below_drawn (Below.refl _ _) 1
  refine f_take 0 14 (leA l) rfl rfl (by kernel_rfl) (by kernel_rfl) (by kernel_rfl) (by kernel_rfl) (fun _ _ _ h => h) rfl hH0 (fun w h => exec_load_le _ l w (KL.out w h.out)) ?_
  simp only [Act.put, List.setIfInBounds_toArray, List.set_cons_zero, List.set_cons_succ]
  refine f_call 1 15 59 #[] rfl rfl (by kernel_rfl) rfl (exec_call Try.func59 (by kernel_rfl) (by kernel_rfl) _ rfl (by simp)) ?_
  refine (wheelNew_spec _).mono ?_
  rintro e u3 ⟨P3, cp3, sq3, rfl, hm3, O3, x3⟩
  have k3 := hH0.out.trans (x3.mono hH0.out.size)
  refine ⟨_, rfl, (fun _ _ => Lib.hid k3), ?_⟩
  simp only [Act.put, List.setIfInBounds_toArray, List.set_cons_zero, List.set_cons_succ]
  refine f_op 2 16 (cbA ⟨l, none, 0, 0, P3, sq3.length, cp3⟩) rfl rfl (by kernel_rfl) rfl (exec_build_cb2 ⟨l, none, 0, 0, P3, sq3.length, cp3⟩ _ rfl rfl rfl) (fun _ _ => Lib.hid k3) ?_
  simp only [Act.put, List.setIfInBounds_toArray, List.set_cons_zero, List.set_cons_succ]
  have hC3 := blk_call HC.out k3
  have bU := HB.out.trans (k3.mono HB.out.size)
  refine f_store 3 rfl rfl (by kernel_rfl) rfl (exec_store_cb w.heap.size ⟨l, none, 0, 0, P3, sq3.length, cp3⟩ _ _ _ _ _ _ _ u3 hC3) (fun h => absurd rfl h) ?_
  refine f_op 4 3 (.bool true) rfl rfl (by kernel_rfl) rfl rfl (fun _ h => absurd h (by simp)) ?_
  simp only [Act.put, List.setIfInBounds_toArray, List.set_cons_zero, List.set_cons_succ]
  refine f_done (by kernel_rfl) ?_ _
  obtain ⟨X, eX⟩ : ∃ X : Cb, (⟨l, none, 0, 0, P3, sq3.length, cp3⟩ : Cb) = X := ⟨_, rfl⟩
  rw [eX]
  obtain ⟨V, eV⟩ : ∃ V, putCb u3 w.heap.size X = V := ⟨_, rfl⟩
  rw [eV]
  have hV : V.heap[w.heap.size]? = some (.cells #[.int .i64 X.le.total, .int .i64 X.le.free, .int .i64 X.le.held, .int .i64 X.le.sold, .int .i64 X.le.tied, .slice X.q X.qn X.qc, .slice X.p X.pn X.pc] 89) := by rw [← eV]; exact putCb_heap hC3
  have bV : Hid (Below w.heap.size w V) := by show Below _ _ _; rw [← eV]; exact putCb_below bU (Nat.le_refl _)
  clear eV eX hC3 bU k3 x3 O3 hm3 hH0 KL HC HB
  have c0 := cell_of_row _ _ 0 _ _ _ hV
  have c1 := cell_of_row _ _ 1 _ _ _ hV
  have c2 := cell_of_row _ _ 2 _ _ _ hV
  have c3 := cell_of_row _ _ 3 _ _ _ hV
  have c4 := cell_of_row _ _ 4 _ _ _ hV
  have c5 := cell_of_row _ _ 5 _ _ _ hV
  have c6 := cell_of_row _ _ 6 _ _ _ hV
  simp at c0 c1 c2 c3 c4 c5 c6
  clear hV
  go_wp2
  simp [bodyPost, results, Try.results56, go_sem, c0, c1, c2, c3, c4, c5, c6]
  exact ⟨⟨X, true, rfl⟩, bV.out⟩
end Go.Proofs.Ytohpegblbikbdaa
