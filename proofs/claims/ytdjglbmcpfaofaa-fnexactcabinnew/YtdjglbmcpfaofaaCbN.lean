/- CabinNew of the model and of the program. -/
import Derived.Test.YtdjglbmcpfaofaaRows
import Derived.Test.YtdjglbmcpfaofaaCbL
import Derived.Test.YtdjglbmcpfaofaaWiA
import Derived.Test.YtdjglbmcpfaofaaLeI
import Derived.Test.YtdjglbmcpfaofaaHs13
import Derived.Test.YtdjglbmcpfaofaaLateF
namespace Go.Proofs.Ytdjglbmcpfaofaa
open Go.RowKit
set_option linter.unusedSimpArgs false
set_option linter.unusedVariables false
/-- A cabin's cells. -/
structure Cb where
  le : Le
  q : Option Addr
  qn : Nat
  qc : Nat
  p : Option Addr
  pn : Nat
  pc : Nat
def cbA (x : Cb) : Value := .agg #[.int .i64 x.le.total, .int .i64 x.le.free, .int .i64 x.le.held, .int .i64 x.le.sold, .int .i64 x.le.tied, .slice x.q x.qn x.qc, .slice x.p x.pn x.pc]
def putCb (w : World) (g : Nat) (x : Cb) : World := (((((((w.setCell ⟨g, 0, none⟩ (.int .i64 x.le.total)).setCell ⟨g, 1, none⟩ (.int .i64 x.le.free)).setCell ⟨g, 2, none⟩ (.int .i64 x.le.held)).setCell ⟨g, 3, none⟩ (.int .i64 x.le.sold)).setCell ⟨g, 4, none⟩ (.int .i64 x.le.tied)).setCell ⟨g, 5, none⟩ (.slice x.q x.qn x.qc)).setCell ⟨g, 6, none⟩ (.slice x.p x.pn x.pc))
theorem putCb_heap {w : World} {g : Nat} {x : Cb} {a0 a1 a2 a3 a4 a5 a6 : Value} {t : TypeId} (h : w.heap[g]? = some (.cells #[a0, a1, a2, a3, a4, a5, a6] t (0, 0))) : (putCb w g x).heap[g]? = some (.cells #[.int .i64 x.le.total, .int .i64 x.le.free, .int .i64 x.le.held, .int .i64 x.le.sold, .int .i64 x.le.tied, .slice x.q x.qn x.qc, .slice x.p x.pn x.pc] t (0, 0)) := by
  unfold putCb
  have h := Go.heap_setCell_same _ g 0 _ t (.int .i64 x.le.total) h
  have h := Go.heap_setCell_same _ g 1 _ t (.int .i64 x.le.free) h
  have h := Go.heap_setCell_same _ g 2 _ t (.int .i64 x.le.held) h
  have h := Go.heap_setCell_same _ g 3 _ t (.int .i64 x.le.sold) h
  have h := Go.heap_setCell_same _ g 4 _ t (.int .i64 x.le.tied) h
  have h := Go.heap_setCell_same _ g 5 _ t (.slice x.q x.qn x.qc) h
  have h := Go.heap_setCell_same _ g 6 _ t (.slice x.p x.pn x.pc) h
  simpa using h
theorem putCb_below {B : Nat} {w0 w : World} {g : Nat} {x : Cb} (h : Below B w0 w) (hg : B ≤ g) : Below B w0 (putCb w g x) := by
  unfold putCb
  exact ((((((h.setCell hg _).setCell hg _).setCell hg _).setCell hg _).setCell hg _).setCell hg _).setCell hg _
set_option maxRecDepth 100000 in
theorem exec_store_cb {ρ : Operand → Value} {o : Oper} {x y : Operand} (g : Nat) (c : Cb) (a0 a1 a2 a3 a4 a5 a6 : Value) (w : World) (h : w.heap[g]? = some (.cells #[a0, a1, a2, a3, a4, a5, a6] 38 (0, 0))) (ho : o.op = .store 38 x y := by rfl) (hx : ρ x = .pointer (some ⟨g, 0, none⟩) := by rfl) (hy : ρ y = cbA c := by rfl) :
    (execOp ρ o).run Try.prog w = .ok .skip (putCb w g c) := by
  have c0 := cell_of_row _ _ 0 _ _ _ h
  have z0 := frozen_of_row _ _ 0 _ _ h
  have c1 := cell_of_row _ _ 1 _ _ _ h
  have z1 := frozen_of_row _ _ 1 _ _ h
  have c2 := cell_of_row _ _ 2 _ _ _ h
  have z2 := frozen_of_row _ _ 2 _ _ h
  have c3 := cell_of_row _ _ 3 _ _ _ h
  have z3 := frozen_of_row _ _ 3 _ _ h
  have c4 := cell_of_row _ _ 4 _ _ _ h
  have z4 := frozen_of_row _ _ 4 _ _ h
  have c5 := cell_of_row _ _ 5 _ _ _ h
  have z5 := frozen_of_row _ _ 5 _ _ h
  have c6 := cell_of_row _ _ 6 _ _ _ h
  have z6 := frozen_of_row _ _ 6 _ _ h
  simp at c0 c1 c2 c3 c4 c5 c6
  unfold execOp
  rw [ho]
  simp [go_sem, hx, hy, cbA, c0, c1, c2, c3, c4, c5, c6, z0, z1, z2, z3, z4, z5, z6, putCb]
set_option maxRecDepth 100000 in
theorem exec_load_le {ρ : Operand → Value} {o : Oper} {x : Operand} (b : Nat) (l : Le) (w : World) (h : Le.here w b 0 l) (ho : o.op = .load 32 x := by rfl) (hx : ρ x = .pointer (some ⟨b, 0, none⟩) := by rfl) :
    (execOp ρ o).run Try.prog w = .ok (.value (leA l)) w := by
  obtain ⟨h0, h1, h2, h3, h4⟩ := h
  unfold execOp
  rw [ho]
  simp at h0 h1 h2 h3 h4
  simp [go_sem, hx, h0, h1, h2, h3, h4, leA]
set_option maxRecDepth 100000 in
theorem exec_build_cb2 {ρ : Operand → Value} {o : Oper} {x z : Operand} (c : Cb) (w : World) (hq : c.q = none) (hq1 : c.qn = 0) (hq2 : c.qc = 0) (ho : o.op = .build 38 #[(0, x), (2, z)] := by rfl) (hx : ρ x = leA c.le := by rfl) (hz : ρ z = .agg #[.slice c.p c.pn c.pc] := by rfl) :
    (execOp ρ o).run Try.prog w = .ok (.value (cbA c)) w := by
  unfold execOp
  rw [ho]
  simp [go_sem, hx, hz, leA, cbA, hq, hq1, hq2]
/-- What CabinNew returns. -/
def cabNewV (t : Int) : Le × List (List Pn) × Bool := if 1 ≤ t ∧ t ≤ 60 then (⟨t, 0, 0, t, 0⟩, nineW, true) else (le0, [], false)
def NewC (w : World) (x : Le × List (List Pn) × Bool) (e : Ending) (w' : World) : Prop :=
  ∃ A c sp, e = .returned (.tuple #[cvA ⟨x.1, none, 0, [], A, c, sp⟩, .bool x.2.2]) ∧ sp.map (fun s => s.l) = x.2.1 ∧ OwnW w' w.heap.size A c sp ∧ Below w.heap.size w w'
def NewCA (w : World) (x : Le × List (List Pn) × Bool) (e : Ending) (w' : World) : Prop :=
  ∃ A c sp, e = .returned (.tuple #[cvA ⟨x.1, none, 0, [], A, c, sp⟩, .bool x.2.2]) ∧ sp.map (fun s => s.l) = x.2.1 ∧ OwnW w' w.heap.size A c sp ∧ ApartW sp ∧ Below w.heap.size w w'
set_option maxRecDepth 100000 in
set_option maxHeartbeats 3200000 in
theorem cabinNew_spec (t : Int) (w : World) (ht : inI t) : Calls Try.prog 21 #[.int .i64 t] w (NewC w (cabNewV t)) := by
  have CL := Lib.hid (ledgerNew_spec t (w.alloc (.cells #[.int .i64 0, .int .i64 0, .int .i64 0, .int .i64 0, .int .i64 0, .slice none 0 0, .slice none 0 0] 38)))
  by_cases hok : 1 ≤ t ∧ t ≤ 60
  rotate_left
  · have ed : ledgerNewV t = (le0, false) := by unfold ledgerNewV; rw [if_neg hok]
    have ev : cabNewV t = (le0, [], false) := by unfold cabNewV; rw [if_neg hok]
    rw [ed] at CL
    rw [ev]
    have HR := Lib.hid (fun (w1 : World) (b1 : Below (w.alloc (.cells #[.int .i64 0, .int .i64 0, .int .i64 0, .int .i64 0, .int .i64 0, .slice none 0 0, .slice none 0 0] 38)).heap.size (w.alloc (.cells #[.int .i64 0, .int .i64 0, .int .i64 0, .int .i64 0, .int .i64 0, .slice none 0 0, .slice none 0 0] 38)) w1) => blk_call (heap_new _ _) b1)
    have HB := Lib.hid (fun (w1 : World) (b1 : Below (w.alloc (.cells #[.int .i64 0, .int .i64 0, .int .i64 0, .int .i64 0, .int .i64 0, .slice none 0 0, .slice none 0 0] 38)).heap.size (w.alloc (.cells #[.int .i64 0, .int .i64 0, .int .i64 0, .int .i64 0, .int .i64 0, .slice none 0 0, .slice none 0 0] 38)) w1) => boxB _ _ _ b1)
    clear ed ev hok
    unfold leA le0 at CL
    go_enter Try.func21, Try.ntmps21
    go_wp2_with fail
    refine CL.out.mono ?_
    rintro e w1 ⟨rfl, b1⟩
    have hC := blk_alloc (HR.out w1 b1) (.cells #[.int .i64 0, .int .i64 0, .int .i64 0, .int .i64 0, .int .i64 0] 32)
    have bW := (HB.out w1 b1).alloc (HB.out w1 b1).size (.cells #[.int .i64 0, .int .i64 0, .int .i64 0, .int .i64 0, .int .i64 0] 32)
    have c0 := cell_of_row _ _ 0 _ _ _ hC
    have d0 := frozen_of_row _ _ 0 _ _ hC
    have c1 := cell_of_row _ _ 1 _ _ _ hC
    have d1 := frozen_of_row _ _ 1 _ _ hC
    have c2 := cell_of_row _ _ 2 _ _ _ hC
    have d2 := frozen_of_row _ _ 2 _ _ hC
    have c3 := cell_of_row _ _ 3 _ _ _ hC
    have d3 := frozen_of_row _ _ 3 _ _ hC
    have c4 := cell_of_row _ _ 4 _ _ _ hC
    have d4 := frozen_of_row _ _ 4 _ _ hC
    have c5 := cell_of_row _ _ 5 _ _ _ hC
    have d5 := frozen_of_row _ _ 5 _ _ hC
    have c6 := cell_of_row _ _ 6 _ _ _ hC
    have d6 := frozen_of_row _ _ 6 _ _ hC
    simp at c0 c1 c2 c3 c4 c5 c6
    have HW := Lib.hid bW
    clear bW hC HR HB b1 CL
    go_wp2
    simp [bodyPost, results, Try.results21, go_sem, c0, c1, c2, c3, c4, c5, c6]
    exact ⟨none, 0, [], rfl, rfl, ⟨World.ownsRow_nil _ _ _ _, fun s hs => by cases hs⟩, by
      iterate 7 refine Below.setCell ?_ (by dsimp only; omega) _
      exact HW.out⟩
  have ed : (ledgerNewV t).2 = true := by unfold ledgerNewV; rw [if_pos hok]
  have el : (ledgerNewV t).1 = ⟨t, 0, 0, t, 0⟩ := by unfold ledgerNewV; rw [if_pos hok]
  have ev : cabNewV t = (⟨t, 0, 0, t, 0⟩, nineW, true) := by unfold cabNewV; rw [if_pos hok]
  rw [ed, el] at CL
  rw [ev]
  obtain ⟨l, hl⟩ : ∃ l, (⟨t, 0, 0, t, 0⟩ : Le) = l := ⟨_, rfl⟩
  rw [hl] at CL ⊢
  clear el ed ev hok hl
  unfold leA at CL
  go_enter Try.func21, Try.ntmps21
  go_wp2_with fail
  refine CL.out.mono ?_
  rintro e w1 ⟨rfl, b1⟩
  have hC : w1.heap[w.heap.size]? = some (.cells #[.int .i64 0, .int .i64 0, .int .i64 0, .int .i64 0, .int .i64 0, .slice none 0 0, .slice none 0 0] 38) := blk_call (heap_new _ _) b1
  have bW := boxB _ _ _ b1
  have hC2 := blk_alloc hC (.cells #[.int .i64 l.total, .int .i64 l.free, .int .i64 l.held, .int .i64 l.sold, .int .i64 l.tied] 32)
  have hL2 := heap_new w1 (.cells #[.int .i64 l.total, .int .i64 l.free, .int .i64 l.held, .int .i64 l.sold, .int .i64 l.tied] 32)
  have bW2 := bW.alloc bW.size (.cells #[.int .i64 l.total, .int .i64 l.free, .int .i64 l.held, .int .i64 l.sold, .int .i64 l.tied] 32)
  obtain ⟨U, eU⟩ : ∃ U, w1.alloc (.cells #[.int .i64 l.total, .int .i64 l.free, .int .i64 l.held, .int .i64 l.sold, .int .i64 l.tied] 32) = U := ⟨_, rfl⟩
  rw [eU] at hC2 hL2 bW2
  have HU := Lib.hid eU
  have ltC : w.heap.size < w1.heap.size := blk_lt hC
  clear b1 CL eU
  have KL := Lib.hid (fun w' (h : Below U.heap.size U w') => Le.here.blk (blk_call hL2 h))
  have HC := Lib.hid hC2
  have HB := Lib.hid bW2
  have HLT := Lib.hid (blk_lt hC2)
  clear hC bW hC2 hL2 bW2
  go_wp2_with fail
  rw [HU.out]
  refine wp_region_F 3 (fun w' => Hid (Below U.heap.size U w')) (by kernel_rfl) ?_
  have hH0 : Hid (Below U.heap.size U U.drew) := below_drawn (Below.refl _ _) 1
  refine f_take 0 14 (leA l) rfl rfl (by kernel_rfl) (by kernel_rfl) (by kernel_rfl) (by kernel_rfl) (fun _ _ _ h => h) rfl hH0 (fun w h => exec_load_le _ l w (KL.out w h.out)) ?_
  simp only [Act.put, List.setIfInBounds_toArray, List.set_cons_zero, List.set_cons_succ]
  refine f_call 1 15 50 #[] rfl rfl (by kernel_rfl) rfl (exec_call Try.func50 (by kernel_rfl) (by kernel_rfl) _ rfl (by simp)) ?_
  refine (wheelNew_spec _).mono ?_
  rintro e u3 ⟨P3, cp3, sq3, rfl, hm3, O3, x3⟩
  have k3 := hH0.out.trans (x3.mono hH0.out.size)
  refine ⟨_, rfl, (fun _ _ => Lib.hid k3), ?_⟩
  simp only [Act.put, List.setIfInBounds_toArray, List.set_cons_zero, List.set_cons_succ]
  refine f_op 2 16 (cbA ⟨l, none, 0, 0, P3, sq3.length, cp3⟩) rfl rfl (by kernel_rfl) rfl (exec_build_cb2 ⟨l, none, 0, 0, P3, sq3.length, cp3⟩ _ rfl rfl rfl) (fun _ _ => Lib.hid k3) ?_
  simp only [Act.put, List.setIfInBounds_toArray, List.set_cons_zero, List.set_cons_succ]
  have hC3 := blk_call HC.out k3
  have bU := HB.out.trans (k3.mono HB.out.size)
  refine f_store 3 rfl rfl (by kernel_rfl) rfl (exec_store_cb w.heap.size ⟨l, none, 0, 0, P3, sq3.length, cp3⟩ _ _ _ _ _ _ _ u3 hC3) (fun h => absurd rfl h) ?_
  refine f_op 4 3 (.bool true) rfl rfl (by kernel_rfl) rfl rfl (fun _ h => absurd h (by simp)) ?_
  simp only [Act.put, List.setIfInBounds_toArray, List.set_cons_zero, List.set_cons_succ]
  refine f_done (by kernel_rfl) ?_ _
  obtain ⟨V, eV⟩ : ∃ V, putCb u3 w.heap.size ⟨l, none, 0, 0, P3, sq3.length, cp3⟩ = V := ⟨_, rfl⟩
  rw [eV]
  have hV := putCb_heap (x := ⟨l, none, 0, 0, P3, sq3.length, cp3⟩) hC3
  rw [eV] at hV
  have bV : Hid (Below w.heap.size w V) := by show Below _ _ _; rw [← eV]; exact putCb_below bU (Nat.le_refl _)
  have OV : Hid (OwnW V w.heap.size P3 cp3 sq3) := by
    show OwnW _ _ _ _ _
    have h0 : w.heap.size < U.drew.heap.size := by have := HLT.out; simpa using this
    have O4 : OwnW V U.drew.heap.size P3 cp3 sq3 := by
      rw [← eV]; unfold putCb
      repeat refine OwnW.set ?_ h0
      exact O3
    exact O4.weak (by omega)
  have HM := Lib.hid hm3

  clear eV hC3 bU k3 x3 O3 hm3 hH0 KL HC HB HLT
  have c0 := cell_of_row _ _ 0 _ _ _ hV
  have c1 := cell_of_row _ _ 1 _ _ _ hV
  have c2 := cell_of_row _ _ 2 _ _ _ hV
  have c3 := cell_of_row _ _ 3 _ _ _ hV
  have c4 := cell_of_row _ _ 4 _ _ _ hV
  have c5 := cell_of_row _ _ 5 _ _ _ hV
  have c6 := cell_of_row _ _ 6 _ _ _ hV
  simp at c0 c1 c2 c3 c4 c5 c6
  clear hV
  go_wp2
  simp [bodyPost, results, Try.results21, go_sem, c0, c1, c2, c3, c4, c5, c6]
  exact ⟨P3, cp3, sq3, rfl, HM.out, OV.out, bV.out⟩
set_option maxRecDepth 100000 in
set_option maxHeartbeats 3200000 in
theorem cabinNew_impl (t : Int) (w : World) (ht : inI t) : Calls Try.prog 22 #[.int .i64 t] w (NewCA w (cabNewV t)) := by
  have CL := Lib.hid (ledgerNew_impl t (w.alloc (.cells #[.int .i64 0, .int .i64 0, .int .i64 0, .int .i64 0, .int .i64 0, .slice none 0 0, .slice none 0 0] 38)) ht)
  by_cases hok : 1 ≤ t ∧ t ≤ 60
  rotate_left
  · have ed : ledgerNewV t = (le0, false) := by unfold ledgerNewV; rw [if_neg hok]
    have ev : cabNewV t = (le0, [], false) := by unfold cabNewV; rw [if_neg hok]
    rw [ed] at CL
    rw [ev]
    have HR := Lib.hid (fun (w1 : World) (b1 : Below (w.alloc (.cells #[.int .i64 0, .int .i64 0, .int .i64 0, .int .i64 0, .int .i64 0, .slice none 0 0, .slice none 0 0] 38)).heap.size (w.alloc (.cells #[.int .i64 0, .int .i64 0, .int .i64 0, .int .i64 0, .int .i64 0, .slice none 0 0, .slice none 0 0] 38)) w1) => blk_call (heap_new _ _) b1)
    have HB := Lib.hid (fun (w1 : World) (b1 : Below (w.alloc (.cells #[.int .i64 0, .int .i64 0, .int .i64 0, .int .i64 0, .int .i64 0, .slice none 0 0, .slice none 0 0] 38)).heap.size (w.alloc (.cells #[.int .i64 0, .int .i64 0, .int .i64 0, .int .i64 0, .int .i64 0, .slice none 0 0, .slice none 0 0] 38)) w1) => boxB _ _ _ b1)
    clear ed ev hok
    unfold leA le0 at CL
    go_enter Try.func22, Try.ntmps22
    go_wp2_with fail
    refine CL.out.mono ?_
    rintro e w1 ⟨rfl, b1⟩
    have hC := blk_alloc (HR.out w1 b1) (.cells #[.int .i64 0, .int .i64 0, .int .i64 0, .int .i64 0, .int .i64 0] 32)
    have bW := (HB.out w1 b1).alloc (HB.out w1 b1).size (.cells #[.int .i64 0, .int .i64 0, .int .i64 0, .int .i64 0, .int .i64 0] 32)
    have c0 := cell_of_row _ _ 0 _ _ _ hC
    have d0 := frozen_of_row _ _ 0 _ _ hC
    have c1 := cell_of_row _ _ 1 _ _ _ hC
    have d1 := frozen_of_row _ _ 1 _ _ hC
    have c2 := cell_of_row _ _ 2 _ _ _ hC
    have d2 := frozen_of_row _ _ 2 _ _ hC
    have c3 := cell_of_row _ _ 3 _ _ _ hC
    have d3 := frozen_of_row _ _ 3 _ _ hC
    have c4 := cell_of_row _ _ 4 _ _ _ hC
    have d4 := frozen_of_row _ _ 4 _ _ hC
    have c5 := cell_of_row _ _ 5 _ _ _ hC
    have d5 := frozen_of_row _ _ 5 _ _ hC
    have c6 := cell_of_row _ _ 6 _ _ _ hC
    have d6 := frozen_of_row _ _ 6 _ _ hC
    simp at c0 c1 c2 c3 c4 c5 c6
    have HW := Lib.hid bW
    clear bW hC HR HB b1 CL
    go_wp2
    simp [bodyPost, results, Try.results22, go_sem, c0, c1, c2, c3, c4, c5, c6]
    exact ⟨none, 0, [], rfl, rfl, ⟨World.ownsRow_nil _ _ _ _, fun s hs => by cases hs⟩, ApartW.nil, by
      iterate 7 refine Below.setCell ?_ (by dsimp only; omega) _
      exact HW.out⟩
  have ed : (ledgerNewV t).2 = true := by unfold ledgerNewV; rw [if_pos hok]
  have el : (ledgerNewV t).1 = ⟨t, 0, 0, t, 0⟩ := by unfold ledgerNewV; rw [if_pos hok]
  have ev : cabNewV t = (⟨t, 0, 0, t, 0⟩, nineW, true) := by unfold cabNewV; rw [if_pos hok]
  rw [ed, el] at CL
  rw [ev]
  obtain ⟨l, hl⟩ : ∃ l, (⟨t, 0, 0, t, 0⟩ : Le) = l := ⟨_, rfl⟩
  rw [hl] at CL ⊢
  clear el ed ev hok hl
  unfold leA at CL
  go_enter Try.func22, Try.ntmps22
  go_wp2_with fail
  refine CL.out.mono ?_
  rintro e w1 ⟨rfl, b1⟩
  have hC : w1.heap[w.heap.size]? = some (.cells #[.int .i64 0, .int .i64 0, .int .i64 0, .int .i64 0, .int .i64 0, .slice none 0 0, .slice none 0 0] 38) := blk_call (heap_new _ _) b1
  have bW := boxB _ _ _ b1
  have hC2 := blk_alloc hC (.cells #[.int .i64 l.total, .int .i64 l.free, .int .i64 l.held, .int .i64 l.sold, .int .i64 l.tied] 32)
  have hL2 := heap_new w1 (.cells #[.int .i64 l.total, .int .i64 l.free, .int .i64 l.held, .int .i64 l.sold, .int .i64 l.tied] 32)
  have bW2 := bW.alloc bW.size (.cells #[.int .i64 l.total, .int .i64 l.free, .int .i64 l.held, .int .i64 l.sold, .int .i64 l.tied] 32)
  obtain ⟨U, eU⟩ : ∃ U, w1.alloc (.cells #[.int .i64 l.total, .int .i64 l.free, .int .i64 l.held, .int .i64 l.sold, .int .i64 l.tied] 32) = U := ⟨_, rfl⟩
  rw [eU] at hC2 hL2 bW2
  have HU := Lib.hid eU
  have ltC : w.heap.size < w1.heap.size := blk_lt hC
  clear b1 CL eU
  have KL := Lib.hid (fun w' (h : Below U.heap.size U w') => Le.here.blk (blk_call hL2 h))
  have HC := Lib.hid hC2
  have HB := Lib.hid bW2
  have HLT := Lib.hid (blk_lt hC2)
  clear hC bW hC2 hL2 bW2
  go_wp2_with fail
  rw [HU.out]
  refine wp_region_F 3 (fun w' => Hid (Below U.heap.size U w')) (by kernel_rfl) ?_
  have hH0 : Hid (Below U.heap.size U U.drew) := below_drawn (Below.refl _ _) 1
  refine f_take 0 14 (leA l) rfl rfl (by kernel_rfl) (by kernel_rfl) (by kernel_rfl) (by kernel_rfl) (fun _ _ _ h => h) rfl hH0 (fun w h => exec_load_le _ l w (KL.out w h.out)) ?_
  simp only [Act.put, List.setIfInBounds_toArray, List.set_cons_zero, List.set_cons_succ]
  refine f_call 1 15 52 #[] rfl rfl (by kernel_rfl) rfl (exec_call Try.func52 (by kernel_rfl) (by kernel_rfl) _ rfl (by simp)) ?_
  refine (wheelNew_impl _).mono ?_
  rintro e u3 ⟨P3, cp3, sq3, rfl, hm3, O3, ap3, x3⟩
  have k3 := hH0.out.trans (x3.mono hH0.out.size)
  refine ⟨_, rfl, (fun _ _ => Lib.hid k3), ?_⟩
  simp only [Act.put, List.setIfInBounds_toArray, List.set_cons_zero, List.set_cons_succ]
  refine f_op 2 16 (cbA ⟨l, none, 0, 0, P3, sq3.length, cp3⟩) rfl rfl (by kernel_rfl) rfl (exec_build_cb2 ⟨l, none, 0, 0, P3, sq3.length, cp3⟩ _ rfl rfl rfl) (fun _ _ => Lib.hid k3) ?_
  simp only [Act.put, List.setIfInBounds_toArray, List.set_cons_zero, List.set_cons_succ]
  have hC3 := blk_call HC.out k3
  have bU := HB.out.trans (k3.mono HB.out.size)
  refine f_store 3 rfl rfl (by kernel_rfl) rfl (exec_store_cb w.heap.size ⟨l, none, 0, 0, P3, sq3.length, cp3⟩ _ _ _ _ _ _ _ u3 hC3) (fun h => absurd rfl h) ?_
  refine f_op 4 3 (.bool true) rfl rfl (by kernel_rfl) rfl rfl (fun _ h => absurd h (by simp)) ?_
  simp only [Act.put, List.setIfInBounds_toArray, List.set_cons_zero, List.set_cons_succ]
  refine f_done (by kernel_rfl) ?_ _
  obtain ⟨V, eV⟩ : ∃ V, putCb u3 w.heap.size ⟨l, none, 0, 0, P3, sq3.length, cp3⟩ = V := ⟨_, rfl⟩
  rw [eV]
  have hV := putCb_heap (x := ⟨l, none, 0, 0, P3, sq3.length, cp3⟩) hC3
  rw [eV] at hV
  have bV : Hid (Below w.heap.size w V) := by show Below _ _ _; rw [← eV]; exact putCb_below bU (Nat.le_refl _)
  have OV : Hid (OwnW V w.heap.size P3 cp3 sq3) := by
    show OwnW _ _ _ _ _
    have h0 : w.heap.size < U.drew.heap.size := by have := HLT.out; simpa using this
    have O4 : OwnW V U.drew.heap.size P3 cp3 sq3 := by
      rw [← eV]; unfold putCb
      repeat refine OwnW.set ?_ h0
      exact O3
    exact O4.weak (by omega)
  have HM := Lib.hid hm3
  have AP := Lib.hid ap3
  clear eV hC3 bU k3 x3 O3 hm3 hH0 KL HC HB HLT ap3
  have c0 := cell_of_row _ _ 0 _ _ _ hV
  have c1 := cell_of_row _ _ 1 _ _ _ hV
  have c2 := cell_of_row _ _ 2 _ _ _ hV
  have c3 := cell_of_row _ _ 3 _ _ _ hV
  have c4 := cell_of_row _ _ 4 _ _ _ hV
  have c5 := cell_of_row _ _ 5 _ _ _ hV
  have c6 := cell_of_row _ _ 6 _ _ _ hV
  simp at c0 c1 c2 c3 c4 c5 c6
  clear hV
  go_wp2
  simp [bodyPost, results, Try.results22, go_sem, c0, c1, c2, c3, c4, c5, c6]
  exact ⟨P3, cp3, sq3, rfl, HM.out, OV.out, AP.out, bV.out⟩
end Go.Proofs.Ytdjglbmcpfaofaa
