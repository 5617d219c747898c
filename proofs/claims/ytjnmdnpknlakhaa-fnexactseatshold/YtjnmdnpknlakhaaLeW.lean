/- The walks of the exact laws over ledgers. -/
import Derived.Test.YtjnmdnpknlakhaaRows
import Derived.Test.YtjnmdnpknlakhaaLeI
namespace Go.Proofs.Ytjnmdnpknlakhaa
open Go.RowKit
set_option linter.unusedSimpArgs false
set_option linter.unusedVariables false
set_option maxRecDepth 100000 in
set_option maxHeartbeats 1600000 in
theorem FnExactLedgerOk_walk (l : Le) (w : World) (hf : l.fits) : Calls Try.prog 5 #[leA l] w fun e w' => e = .returned (.bool true) ∧ Below w.heap.size w w' := by
  have CT := Lib.hid (fun w => toLedger_any l w)
  have C1 := Lib.hid (fun w => ledgerOk_spec l w)
  have C2 := Lib.hid (fun w => ledgerOk_impl l w hf)
  generalize decide l.fine = R at C1 C2
  have nB : (R != R) = false := by simp
  clear hf
  have bW : Below w.heap.size w (w.alloc (.cells #[.int .i64 l.total, .int .i64 l.free, .int .i64 l.held, .int .i64 l.sold, .int .i64 l.tied] 33)) := (Below.refl _ _).alloc (Nat.le_refl _) _
  have hE := heap_new w (.cells #[.int .i64 l.total, .int .i64 l.free, .int .i64 l.held, .int .i64 l.sold, .int .i64 l.tied] 33)
  unfold leA at CT C1 C2 ⊢
  go_enter Try.func5, Try.ntmps5
  have q0 := cell_of_row _ _ 0 _ _ _ hE
  have q1 := cell_of_row _ _ 1 _ _ _ hE
  have q2 := cell_of_row _ _ 2 _ _ _ hE
  have q3 := cell_of_row _ _ 3 _ _ _ hE
  have q4 := cell_of_row _ _ 4 _ _ _ hE
  simp at q0 q1 q2 q3 q4
  go_wp2_with fail
  refine (CT.out _).mono ?_
  rintro e w1 ⟨rfl, x1⟩
  have Z1 := x1.size
  try simp only [World.size_alloc] at Z1
  have hE := blk_call hE x1
  have bW := bW.trans (x1.mono bW.size)
  clear q0 q1 q2 q3 q4
  clear x1
  go_wp2_with fail
  refine (C1.out _).mono ?_
  rintro e w2 ⟨rfl, x2⟩
  have Z2 := x2.size
  try simp only [World.size_alloc] at Z2
  have hE := blk_call hE x2
  have bW := bW.trans (x2.mono bW.size)
  clear x2
  have q0 := cell_of_row _ _ 0 _ _ _ hE
  have q1 := cell_of_row _ _ 1 _ _ _ hE
  have q2 := cell_of_row _ _ 2 _ _ _ hE
  have q3 := cell_of_row _ _ 3 _ _ _ hE
  have q4 := cell_of_row _ _ 4 _ _ _ hE
  simp at q0 q1 q2 q3 q4
  go_wp2_with fail
  refine (CT.out _).mono ?_
  rintro e w3 ⟨rfl, x3⟩
  have Z3 := x3.size
  try simp only [World.size_alloc] at Z3
  have hE := blk_call hE x3
  have bW := bW.trans (x3.mono bW.size)
  clear q0 q1 q2 q3 q4
  clear x3
  go_wp2_with fail
  refine (C2.out _).mono ?_
  rintro e w4 ⟨rfl, x4⟩
  have Z4 := x4.size
  try simp only [World.size_alloc] at Z4
  have hE := blk_call hE x4
  have bW := bW.trans (x4.mono bW.size)
  clear x4
  have HB := Lib.hid bW
  clear bW hE
  go_wp2
  go_ret
  exact ⟨rfl, HB.out⟩
set_option maxRecDepth 100000 in
set_option maxHeartbeats 1600000 in
theorem FnExactLedgerNew_walk (t : Int) (w : World) (ht : inI t) : Calls Try.prog 6 #[.int .i64 t] w fun e w' => e = .returned (.bool true) ∧ Below w.heap.size w w' := by
  have C1 := Lib.hid (fun w => ledgerNew_spec t w)
  have C2 := Lib.hid (fun w => ledgerNew_impl t w ht)
  generalize ledgerNewV t = r at *
  have CE := Lib.hid (fun w => eqLedger_same r.1 w)
  have nB : (r.2 != r.2) = false := by simp
  clear ht
  have bW := Below.refl w.heap.size w
  unfold leA at C1 C2 CE
  go_enter Try.func6, Try.ntmps6
  go_wp2_with fail
  refine (C1.out _).mono ?_
  rintro e w2 ⟨rfl, x2⟩
  have Z2 := x2.size
  try simp only [World.size_alloc] at Z2
  have bW := bW.trans (x2.mono bW.size)
  clear x2
  have hW := heap_new w2 (.cells #[.int .i64 r.1.total, .int .i64 r.1.free, .int .i64 r.1.held, .int .i64 r.1.sold, .int .i64 r.1.tied] 25)
  have y : Below w2.heap.size w2 (w2.alloc (.cells #[.int .i64 r.1.total, .int .i64 r.1.free, .int .i64 r.1.held, .int .i64 r.1.sold, .int .i64 r.1.tied] 25)) := (Below.refl _ _).alloc (Nat.le_refl _) _
  have bW := bW.trans (y.mono bW.size)
  clear y
  go_wp2_with fail
  refine (C2.out _).mono ?_
  rintro e w4 ⟨rfl, x4⟩
  have Z4 := x4.size
  try simp only [World.size_alloc] at Z4
  have hW := blk_call hW x4
  have bW := bW.trans (x4.mono bW.size)
  clear x4
  have hG := heap_new w4 (.cells #[.int .i64 r.1.total, .int .i64 r.1.free, .int .i64 r.1.held, .int .i64 r.1.sold, .int .i64 r.1.tied] 25)
  have y : Below w4.heap.size w4 (w4.alloc (.cells #[.int .i64 r.1.total, .int .i64 r.1.free, .int .i64 r.1.held, .int .i64 r.1.sold, .int .i64 r.1.tied] 25)) := (Below.refl _ _).alloc (Nat.le_refl _) _
  have hW := blk_call hW y
  have bW := bW.trans (y.mono bW.size)
  clear y
  have c0 := cell_of_row _ _ 0 _ _ _ hW
  have c1 := cell_of_row _ _ 1 _ _ _ hW
  have c2 := cell_of_row _ _ 2 _ _ _ hW
  have c3 := cell_of_row _ _ 3 _ _ _ hW
  have c4 := cell_of_row _ _ 4 _ _ _ hW
  simp at c0 c1 c2 c3 c4
  have d0 := cell_of_row _ _ 0 _ _ _ hG
  have d1 := cell_of_row _ _ 1 _ _ _ hG
  have d2 := cell_of_row _ _ 2 _ _ _ hG
  have d3 := cell_of_row _ _ 3 _ _ _ hG
  have d4 := cell_of_row _ _ 4 _ _ _ hG
  simp at d0 d1 d2 d3 d4
  go_wp2_with fail
  refine (CE.out _).mono ?_
  rintro e w5 ⟨rfl, x5⟩
  have Z5 := x5.size
  try simp only [World.size_alloc] at Z5
  have hW := blk_call hW x5
  have hG := blk_call hG x5
  have bW := bW.trans (x5.mono bW.size)
  clear c0 c1 c2 c3 c4 d0 d1 d2 d3 d4
  clear x5
  have HB := Lib.hid bW
  clear bW hW hG
  go_wp2
  go_ret
  exact ⟨rfl, HB.out⟩
set_option maxRecDepth 100000 in
set_option maxHeartbeats 3200000 in
theorem FnExactSeatsHold_walk (l : Le) (n : Int) (w : World) (hf : l.fits) (hn : inI n) : Calls Try.prog 7 #[leA l, .int .i64 n] w fun e w' => e = .returned (.bool true) ∧ Below w.heap.size w w' := by
  have CT := Lib.hid (fun w => toLedger_any l w)
  have C1 := Lib.hid (fun w => seatsHold_spec l n w)
  have C2 := Lib.hid (fun w => seatsHold_impl l n w hf hn)
  generalize turnV l n (-n) n 0 0 = r at *
  have CE := Lib.hid (fun w => eqLedger_same r.1 w)
  have nB : (r.2 != r.2) = false := by simp
  clear hf hn
  have bW : Below w.heap.size w (w.alloc (.cells #[.int .i64 l.total, .int .i64 l.free, .int .i64 l.held, .int .i64 l.sold, .int .i64 l.tied] 33)) := (Below.refl _ _).alloc (Nat.le_refl _) _
  have hE := heap_new w (.cells #[.int .i64 l.total, .int .i64 l.free, .int .i64 l.held, .int .i64 l.sold, .int .i64 l.tied] 33)
  unfold leA at CT C1 C2 CE ⊢
  go_enter Try.func7, Try.ntmps7
  have q0 := cell_of_row _ _ 0 _ _ _ hE
  have q1 := cell_of_row _ _ 1 _ _ _ hE
  have q2 := cell_of_row _ _ 2 _ _ _ hE
  have q3 := cell_of_row _ _ 3 _ _ _ hE
  have q4 := cell_of_row _ _ 4 _ _ _ hE
  simp at q0 q1 q2 q3 q4
  go_wp2_with fail
  refine (CT.out _).mono ?_
  rintro e w1 ⟨rfl, x1⟩
  have Z1 := x1.size
  try simp only [World.size_alloc] at Z1
  have hE := blk_call hE x1
  have bW := bW.trans (x1.mono bW.size)
  clear q0 q1 q2 q3 q4
  clear x1
  go_wp2_with fail
  refine (C1.out _).mono ?_
  rintro e w2 ⟨rfl, x2⟩
  have Z2 := x2.size
  try simp only [World.size_alloc] at Z2
  have hE := blk_call hE x2
  have bW := bW.trans (x2.mono bW.size)
  clear x2
  have hW := heap_new w2 (.cells #[.int .i64 r.1.total, .int .i64 r.1.free, .int .i64 r.1.held, .int .i64 r.1.sold, .int .i64 r.1.tied] 25)
  have y : Below w2.heap.size w2 (w2.alloc (.cells #[.int .i64 r.1.total, .int .i64 r.1.free, .int .i64 r.1.held, .int .i64 r.1.sold, .int .i64 r.1.tied] 25)) := (Below.refl _ _).alloc (Nat.le_refl _) _
  have hE := blk_call hE y
  have bW := bW.trans (y.mono bW.size)
  clear y
  have q0 := cell_of_row _ _ 0 _ _ _ hE
  have q1 := cell_of_row _ _ 1 _ _ _ hE
  have q2 := cell_of_row _ _ 2 _ _ _ hE
  have q3 := cell_of_row _ _ 3 _ _ _ hE
  have q4 := cell_of_row _ _ 4 _ _ _ hE
  simp at q0 q1 q2 q3 q4
  go_wp2_with fail
  refine (CT.out _).mono ?_
  rintro e w3 ⟨rfl, x3⟩
  have Z3 := x3.size
  try simp only [World.size_alloc] at Z3
  have hE := blk_call hE x3
  have hW := blk_call hW x3
  have bW := bW.trans (x3.mono bW.size)
  clear q0 q1 q2 q3 q4
  clear x3
  go_wp2_with fail
  refine (C2.out _).mono ?_
  rintro e w4 ⟨rfl, x4⟩
  have Z4 := x4.size
  try simp only [World.size_alloc] at Z4
  have hE := blk_call hE x4
  have hW := blk_call hW x4
  have bW := bW.trans (x4.mono bW.size)
  clear x4
  have hG := heap_new w4 (.cells #[.int .i64 r.1.total, .int .i64 r.1.free, .int .i64 r.1.held, .int .i64 r.1.sold, .int .i64 r.1.tied] 25)
  have y : Below w4.heap.size w4 (w4.alloc (.cells #[.int .i64 r.1.total, .int .i64 r.1.free, .int .i64 r.1.held, .int .i64 r.1.sold, .int .i64 r.1.tied] 25)) := (Below.refl _ _).alloc (Nat.le_refl _) _
  have hE := blk_call hE y
  have hW := blk_call hW y
  have bW := bW.trans (y.mono bW.size)
  clear y
  have c0 := cell_of_row _ _ 0 _ _ _ hW
  have c1 := cell_of_row _ _ 1 _ _ _ hW
  have c2 := cell_of_row _ _ 2 _ _ _ hW
  have c3 := cell_of_row _ _ 3 _ _ _ hW
  have c4 := cell_of_row _ _ 4 _ _ _ hW
  simp at c0 c1 c2 c3 c4
  have d0 := cell_of_row _ _ 0 _ _ _ hG
  have d1 := cell_of_row _ _ 1 _ _ _ hG
  have d2 := cell_of_row _ _ 2 _ _ _ hG
  have d3 := cell_of_row _ _ 3 _ _ _ hG
  have d4 := cell_of_row _ _ 4 _ _ _ hG
  simp at d0 d1 d2 d3 d4
  go_wp2_with fail
  refine (CE.out _).mono ?_
  rintro e w5 ⟨rfl, x5⟩
  have Z5 := x5.size
  try simp only [World.size_alloc] at Z5
  have hE := blk_call hE x5
  have hW := blk_call hW x5
  have hG := blk_call hG x5
  have bW := bW.trans (x5.mono bW.size)
  clear c0 c1 c2 c3 c4 d0 d1 d2 d3 d4
  clear x5
  have HB := Lib.hid bW
  clear bW hE hW hG
  go_wp2
  go_ret
  exact ⟨rfl, HB.out⟩
set_option maxRecDepth 100000 in
set_option maxHeartbeats 3200000 in
theorem FnExactSeatsDrop_walk (l : Le) (n : Int) (w : World) (hf : l.fits) (hn : inI n) : Calls Try.prog 8 #[leA l, .int .i64 n] w fun e w' => e = .returned (.bool true) ∧ Below w.heap.size w w' := by
  have CT := Lib.hid (fun w => toLedger_any l w)
  have C1 := Lib.hid (fun w => seatsDrop_spec l n w)
  have C2 := Lib.hid (fun w => seatsDrop_impl l n w hf hn)
  generalize turnV l n n (-n) 0 0 = r at *
  have CE := Lib.hid (fun w => eqLedger_same r.1 w)
  have nB : (r.2 != r.2) = false := by simp
  clear hf hn
  have bW : Below w.heap.size w (w.alloc (.cells #[.int .i64 l.total, .int .i64 l.free, .int .i64 l.held, .int .i64 l.sold, .int .i64 l.tied] 33)) := (Below.refl _ _).alloc (Nat.le_refl _) _
  have hE := heap_new w (.cells #[.int .i64 l.total, .int .i64 l.free, .int .i64 l.held, .int .i64 l.sold, .int .i64 l.tied] 33)
  unfold leA at CT C1 C2 CE ⊢
  go_enter Try.func8, Try.ntmps8
  have q0 := cell_of_row _ _ 0 _ _ _ hE
  have q1 := cell_of_row _ _ 1 _ _ _ hE
  have q2 := cell_of_row _ _ 2 _ _ _ hE
  have q3 := cell_of_row _ _ 3 _ _ _ hE
  have q4 := cell_of_row _ _ 4 _ _ _ hE
  simp at q0 q1 q2 q3 q4
  go_wp2_with fail
  refine (CT.out _).mono ?_
  rintro e w1 ⟨rfl, x1⟩
  have Z1 := x1.size
  try simp only [World.size_alloc] at Z1
  have hE := blk_call hE x1
  have bW := bW.trans (x1.mono bW.size)
  clear q0 q1 q2 q3 q4
  clear x1
  go_wp2_with fail
  refine (C1.out _).mono ?_
  rintro e w2 ⟨rfl, x2⟩
  have Z2 := x2.size
  try simp only [World.size_alloc] at Z2
  have hE := blk_call hE x2
  have bW := bW.trans (x2.mono bW.size)
  clear x2
  have hW := heap_new w2 (.cells #[.int .i64 r.1.total, .int .i64 r.1.free, .int .i64 r.1.held, .int .i64 r.1.sold, .int .i64 r.1.tied] 25)
  have y : Below w2.heap.size w2 (w2.alloc (.cells #[.int .i64 r.1.total, .int .i64 r.1.free, .int .i64 r.1.held, .int .i64 r.1.sold, .int .i64 r.1.tied] 25)) := (Below.refl _ _).alloc (Nat.le_refl _) _
  have hE := blk_call hE y
  have bW := bW.trans (y.mono bW.size)
  clear y
  have q0 := cell_of_row _ _ 0 _ _ _ hE
  have q1 := cell_of_row _ _ 1 _ _ _ hE
  have q2 := cell_of_row _ _ 2 _ _ _ hE
  have q3 := cell_of_row _ _ 3 _ _ _ hE
  have q4 := cell_of_row _ _ 4 _ _ _ hE
  simp at q0 q1 q2 q3 q4
  go_wp2_with fail
  refine (CT.out _).mono ?_
  rintro e w3 ⟨rfl, x3⟩
  have Z3 := x3.size
  try simp only [World.size_alloc] at Z3
  have hE := blk_call hE x3
  have hW := blk_call hW x3
  have bW := bW.trans (x3.mono bW.size)
  clear q0 q1 q2 q3 q4
  clear x3
  go_wp2_with fail
  refine (C2.out _).mono ?_
  rintro e w4 ⟨rfl, x4⟩
  have Z4 := x4.size
  try simp only [World.size_alloc] at Z4
  have hE := blk_call hE x4
  have hW := blk_call hW x4
  have bW := bW.trans (x4.mono bW.size)
  clear x4
  have hG := heap_new w4 (.cells #[.int .i64 r.1.total, .int .i64 r.1.free, .int .i64 r.1.held, .int .i64 r.1.sold, .int .i64 r.1.tied] 25)
  have y : Below w4.heap.size w4 (w4.alloc (.cells #[.int .i64 r.1.total, .int .i64 r.1.free, .int .i64 r.1.held, .int .i64 r.1.sold, .int .i64 r.1.tied] 25)) := (Below.refl _ _).alloc (Nat.le_refl _) _
  have hE := blk_call hE y
  have hW := blk_call hW y
  have bW := bW.trans (y.mono bW.size)
  clear y
  have c0 := cell_of_row _ _ 0 _ _ _ hW
  have c1 := cell_of_row _ _ 1 _ _ _ hW
  have c2 := cell_of_row _ _ 2 _ _ _ hW
  have c3 := cell_of_row _ _ 3 _ _ _ hW
  have c4 := cell_of_row _ _ 4 _ _ _ hW
  simp at c0 c1 c2 c3 c4
  have d0 := cell_of_row _ _ 0 _ _ _ hG
  have d1 := cell_of_row _ _ 1 _ _ _ hG
  have d2 := cell_of_row _ _ 2 _ _ _ hG
  have d3 := cell_of_row _ _ 3 _ _ _ hG
  have d4 := cell_of_row _ _ 4 _ _ _ hG
  simp at d0 d1 d2 d3 d4
  go_wp2_with fail
  refine (CE.out _).mono ?_
  rintro e w5 ⟨rfl, x5⟩
  have Z5 := x5.size
  try simp only [World.size_alloc] at Z5
  have hE := blk_call hE x5
  have hW := blk_call hW x5
  have hG := blk_call hG x5
  have bW := bW.trans (x5.mono bW.size)
  clear c0 c1 c2 c3 c4 d0 d1 d2 d3 d4
  clear x5
  have HB := Lib.hid bW
  clear bW hE hW hG
  go_wp2
  go_ret
  exact ⟨rfl, HB.out⟩
set_option maxRecDepth 100000 in
set_option maxHeartbeats 3200000 in
theorem FnExactSeatsSell_walk (l : Le) (n : Int) (w : World) (hf : l.fits) (hn : inI n) : Calls Try.prog 9 #[leA l, .int .i64 n] w fun e w' => e = .returned (.bool true) ∧ Below w.heap.size w w' := by
  have CT := Lib.hid (fun w => toLedger_any l w)
  have C1 := Lib.hid (fun w => seatsSell_spec l n w)
  have C2 := Lib.hid (fun w => seatsSell_impl l n w hf hn)
  generalize turnV l n 0 (-n) n 0 = r at *
  have CE := Lib.hid (fun w => eqLedger_same r.1 w)
  have nB : (r.2 != r.2) = false := by simp
  clear hf hn
  have bW : Below w.heap.size w (w.alloc (.cells #[.int .i64 l.total, .int .i64 l.free, .int .i64 l.held, .int .i64 l.sold, .int .i64 l.tied] 33)) := (Below.refl _ _).alloc (Nat.le_refl _) _
  have hE := heap_new w (.cells #[.int .i64 l.total, .int .i64 l.free, .int .i64 l.held, .int .i64 l.sold, .int .i64 l.tied] 33)
  unfold leA at CT C1 C2 CE ⊢
  go_enter Try.func9, Try.ntmps9
  have q0 := cell_of_row _ _ 0 _ _ _ hE
  have q1 := cell_of_row _ _ 1 _ _ _ hE
  have q2 := cell_of_row _ _ 2 _ _ _ hE
  have q3 := cell_of_row _ _ 3 _ _ _ hE
  have q4 := cell_of_row _ _ 4 _ _ _ hE
  simp at q0 q1 q2 q3 q4
  go_wp2_with fail
  refine (CT.out _).mono ?_
  rintro e w1 ⟨rfl, x1⟩
  have Z1 := x1.size
  try simp only [World.size_alloc] at Z1
  have hE := blk_call hE x1
  have bW := bW.trans (x1.mono bW.size)
  clear q0 q1 q2 q3 q4
  clear x1
  go_wp2_with fail
  refine (C1.out _).mono ?_
  rintro e w2 ⟨rfl, x2⟩
  have Z2 := x2.size
  try simp only [World.size_alloc] at Z2
  have hE := blk_call hE x2
  have bW := bW.trans (x2.mono bW.size)
  clear x2
  have hW := heap_new w2 (.cells #[.int .i64 r.1.total, .int .i64 r.1.free, .int .i64 r.1.held, .int .i64 r.1.sold, .int .i64 r.1.tied] 25)
  have y : Below w2.heap.size w2 (w2.alloc (.cells #[.int .i64 r.1.total, .int .i64 r.1.free, .int .i64 r.1.held, .int .i64 r.1.sold, .int .i64 r.1.tied] 25)) := (Below.refl _ _).alloc (Nat.le_refl _) _
  have hE := blk_call hE y
  have bW := bW.trans (y.mono bW.size)
  clear y
  have q0 := cell_of_row _ _ 0 _ _ _ hE
  have q1 := cell_of_row _ _ 1 _ _ _ hE
  have q2 := cell_of_row _ _ 2 _ _ _ hE
  have q3 := cell_of_row _ _ 3 _ _ _ hE
  have q4 := cell_of_row _ _ 4 _ _ _ hE
  simp at q0 q1 q2 q3 q4
  go_wp2_with fail
  refine (CT.out _).mono ?_
  rintro e w3 ⟨rfl, x3⟩
  have Z3 := x3.size
  try simp only [World.size_alloc] at Z3
  have hE := blk_call hE x3
  have hW := blk_call hW x3
  have bW := bW.trans (x3.mono bW.size)
  clear q0 q1 q2 q3 q4
  clear x3
  go_wp2_with fail
  refine (C2.out _).mono ?_
  rintro e w4 ⟨rfl, x4⟩
  have Z4 := x4.size
  try simp only [World.size_alloc] at Z4
  have hE := blk_call hE x4
  have hW := blk_call hW x4
  have bW := bW.trans (x4.mono bW.size)
  clear x4
  have hG := heap_new w4 (.cells #[.int .i64 r.1.total, .int .i64 r.1.free, .int .i64 r.1.held, .int .i64 r.1.sold, .int .i64 r.1.tied] 25)
  have y : Below w4.heap.size w4 (w4.alloc (.cells #[.int .i64 r.1.total, .int .i64 r.1.free, .int .i64 r.1.held, .int .i64 r.1.sold, .int .i64 r.1.tied] 25)) := (Below.refl _ _).alloc (Nat.le_refl _) _
  have hE := blk_call hE y
  have hW := blk_call hW y
  have bW := bW.trans (y.mono bW.size)
  clear y
  have c0 := cell_of_row _ _ 0 _ _ _ hW
  have c1 := cell_of_row _ _ 1 _ _ _ hW
  have c2 := cell_of_row _ _ 2 _ _ _ hW
  have c3 := cell_of_row _ _ 3 _ _ _ hW
  have c4 := cell_of_row _ _ 4 _ _ _ hW
  simp at c0 c1 c2 c3 c4
  have d0 := cell_of_row _ _ 0 _ _ _ hG
  have d1 := cell_of_row _ _ 1 _ _ _ hG
  have d2 := cell_of_row _ _ 2 _ _ _ hG
  have d3 := cell_of_row _ _ 3 _ _ _ hG
  have d4 := cell_of_row _ _ 4 _ _ _ hG
  simp at d0 d1 d2 d3 d4
  go_wp2_with fail
  refine (CE.out _).mono ?_
  rintro e w5 ⟨rfl, x5⟩
  have Z5 := x5.size
  try simp only [World.size_alloc] at Z5
  have hE := blk_call hE x5
  have hW := blk_call hW x5
  have hG := blk_call hG x5
  have bW := bW.trans (x5.mono bW.size)
  clear c0 c1 c2 c3 c4 d0 d1 d2 d3 d4
  clear x5
  have HB := Lib.hid bW
  clear bW hE hW hG
  go_wp2
  go_ret
  exact ⟨rfl, HB.out⟩
set_option maxRecDepth 100000 in
set_option maxHeartbeats 3200000 in
theorem FnExactSeatsFree_walk (l : Le) (n : Int) (w : World) (hf : l.fits) (hn : inI n) : Calls Try.prog 10 #[leA l, .int .i64 n] w fun e w' => e = .returned (.bool true) ∧ Below w.heap.size w w' := by
  have CT := Lib.hid (fun w => toLedger_any l w)
  have C1 := Lib.hid (fun w => seatsFree_spec l n w)
  have C2 := Lib.hid (fun w => seatsFree_impl l n w hf hn)
  generalize turnV l n n 0 (-n) 0 = r at *
  have CE := Lib.hid (fun w => eqLedger_same r.1 w)
  have nB : (r.2 != r.2) = false := by simp
  clear hf hn
  have bW : Below w.heap.size w (w.alloc (.cells #[.int .i64 l.total, .int .i64 l.free, .int .i64 l.held, .int .i64 l.sold, .int .i64 l.tied] 33)) := (Below.refl _ _).alloc (Nat.le_refl _) _
  have hE := heap_new w (.cells #[.int .i64 l.total, .int .i64 l.free, .int .i64 l.held, .int .i64 l.sold, .int .i64 l.tied] 33)
  unfold leA at CT C1 C2 CE ⊢
  go_enter Try.func10, Try.ntmps10
  have q0 := cell_of_row _ _ 0 _ _ _ hE
  have q1 := cell_of_row _ _ 1 _ _ _ hE
  have q2 := cell_of_row _ _ 2 _ _ _ hE
  have q3 := cell_of_row _ _ 3 _ _ _ hE
  have q4 := cell_of_row _ _ 4 _ _ _ hE
  simp at q0 q1 q2 q3 q4
  go_wp2_with fail
  refine (CT.out _).mono ?_
  rintro e w1 ⟨rfl, x1⟩
  have Z1 := x1.size
  try simp only [World.size_alloc] at Z1
  have hE := blk_call hE x1
  have bW := bW.trans (x1.mono bW.size)
  clear q0 q1 q2 q3 q4
  clear x1
  go_wp2_with fail
  refine (C1.out _).mono ?_
  rintro e w2 ⟨rfl, x2⟩
  have Z2 := x2.size
  try simp only [World.size_alloc] at Z2
  have hE := blk_call hE x2
  have bW := bW.trans (x2.mono bW.size)
  clear x2
  have hW := heap_new w2 (.cells #[.int .i64 r.1.total, .int .i64 r.1.free, .int .i64 r.1.held, .int .i64 r.1.sold, .int .i64 r.1.tied] 25)
  have y : Below w2.heap.size w2 (w2.alloc (.cells #[.int .i64 r.1.total, .int .i64 r.1.free, .int .i64 r.1.held, .int .i64 r.1.sold, .int .i64 r.1.tied] 25)) := (Below.refl _ _).alloc (Nat.le_refl _) _
  have hE := blk_call hE y
  have bW := bW.trans (y.mono bW.size)
  clear y
  have q0 := cell_of_row _ _ 0 _ _ _ hE
  have q1 := cell_of_row _ _ 1 _ _ _ hE
  have q2 := cell_of_row _ _ 2 _ _ _ hE
  have q3 := cell_of_row _ _ 3 _ _ _ hE
  have q4 := cell_of_row _ _ 4 _ _ _ hE
  simp at q0 q1 q2 q3 q4
  go_wp2_with fail
  refine (CT.out _).mono ?_
  rintro e w3 ⟨rfl, x3⟩
  have Z3 := x3.size
  try simp only [World.size_alloc] at Z3
  have hE := blk_call hE x3
  have hW := blk_call hW x3
  have bW := bW.trans (x3.mono bW.size)
  clear q0 q1 q2 q3 q4
  clear x3
  go_wp2_with fail
  refine (C2.out _).mono ?_
  rintro e w4 ⟨rfl, x4⟩
  have Z4 := x4.size
  try simp only [World.size_alloc] at Z4
  have hE := blk_call hE x4
  have hW := blk_call hW x4
  have bW := bW.trans (x4.mono bW.size)
  clear x4
  have hG := heap_new w4 (.cells #[.int .i64 r.1.total, .int .i64 r.1.free, .int .i64 r.1.held, .int .i64 r.1.sold, .int .i64 r.1.tied] 25)
  have y : Below w4.heap.size w4 (w4.alloc (.cells #[.int .i64 r.1.total, .int .i64 r.1.free, .int .i64 r.1.held, .int .i64 r.1.sold, .int .i64 r.1.tied] 25)) := (Below.refl _ _).alloc (Nat.le_refl _) _
  have hE := blk_call hE y
  have hW := blk_call hW y
  have bW := bW.trans (y.mono bW.size)
  clear y
  have c0 := cell_of_row _ _ 0 _ _ _ hW
  have c1 := cell_of_row _ _ 1 _ _ _ hW
  have c2 := cell_of_row _ _ 2 _ _ _ hW
  have c3 := cell_of_row _ _ 3 _ _ _ hW
  have c4 := cell_of_row _ _ 4 _ _ _ hW
  simp at c0 c1 c2 c3 c4
  have d0 := cell_of_row _ _ 0 _ _ _ hG
  have d1 := cell_of_row _ _ 1 _ _ _ hG
  have d2 := cell_of_row _ _ 2 _ _ _ hG
  have d3 := cell_of_row _ _ 3 _ _ _ hG
  have d4 := cell_of_row _ _ 4 _ _ _ hG
  simp at d0 d1 d2 d3 d4
  go_wp2_with fail
  refine (CE.out _).mono ?_
  rintro e w5 ⟨rfl, x5⟩
  have Z5 := x5.size
  try simp only [World.size_alloc] at Z5
  have hE := blk_call hE x5
  have hW := blk_call hW x5
  have hG := blk_call hG x5
  have bW := bW.trans (x5.mono bW.size)
  clear c0 c1 c2 c3 c4 d0 d1 d2 d3 d4
  clear x5
  have HB := Lib.hid bW
  clear bW hE hW hG
  go_wp2
  go_ret
  exact ⟨rfl, HB.out⟩
set_option maxRecDepth 100000 in
set_option maxHeartbeats 3200000 in
theorem FnExactSeatsTie_walk (l : Le) (n : Int) (w : World) (hf : l.fits) (hn : inI n) : Calls Try.prog 11 #[leA l, .int .i64 n] w fun e w' => e = .returned (.bool true) ∧ Below w.heap.size w w' := by
  have CT := Lib.hid (fun w => toLedger_any l w)
  have C1 := Lib.hid (fun w => seatsTie_spec l n w)
  have C2 := Lib.hid (fun w => seatsTie_impl l n w hf hn)
  generalize turnV l n 0 0 0 n = r at *
  have CE := Lib.hid (fun w => eqLedger_same r.1 w)
  have nB : (r.2 != r.2) = false := by simp
  clear hf hn
  have bW : Below w.heap.size w (w.alloc (.cells #[.int .i64 l.total, .int .i64 l.free, .int .i64 l.held, .int .i64 l.sold, .int .i64 l.tied] 33)) := (Below.refl _ _).alloc (Nat.le_refl _) _
  have hE := heap_new w (.cells #[.int .i64 l.total, .int .i64 l.free, .int .i64 l.held, .int .i64 l.sold, .int .i64 l.tied] 33)
  unfold leA at CT C1 C2 CE ⊢
  go_enter Try.func11, Try.ntmps11
  have q0 := cell_of_row _ _ 0 _ _ _ hE
  have q1 := cell_of_row _ _ 1 _ _ _ hE
  have q2 := cell_of_row _ _ 2 _ _ _ hE
  have q3 := cell_of_row _ _ 3 _ _ _ hE
  have q4 := cell_of_row _ _ 4 _ _ _ hE
  simp at q0 q1 q2 q3 q4
  go_wp2_with fail
  refine (CT.out _).mono ?_
  rintro e w1 ⟨rfl, x1⟩
  have Z1 := x1.size
  try simp only [World.size_alloc] at Z1
  have hE := blk_call hE x1
  have bW := bW.trans (x1.mono bW.size)
  clear q0 q1 q2 q3 q4
  clear x1
  go_wp2_with fail
  refine (C1.out _).mono ?_
  rintro e w2 ⟨rfl, x2⟩
  have Z2 := x2.size
  try simp only [World.size_alloc] at Z2
  have hE := blk_call hE x2
  have bW := bW.trans (x2.mono bW.size)
  clear x2
  have hW := heap_new w2 (.cells #[.int .i64 r.1.total, .int .i64 r.1.free, .int .i64 r.1.held, .int .i64 r.1.sold, .int .i64 r.1.tied] 25)
  have y : Below w2.heap.size w2 (w2.alloc (.cells #[.int .i64 r.1.total, .int .i64 r.1.free, .int .i64 r.1.held, .int .i64 r.1.sold, .int .i64 r.1.tied] 25)) := (Below.refl _ _).alloc (Nat.le_refl _) _
  have hE := blk_call hE y
  have bW := bW.trans (y.mono bW.size)
  clear y
  have q0 := cell_of_row _ _ 0 _ _ _ hE
  have q1 := cell_of_row _ _ 1 _ _ _ hE
  have q2 := cell_of_row _ _ 2 _ _ _ hE
  have q3 := cell_of_row _ _ 3 _ _ _ hE
  have q4 := cell_of_row _ _ 4 _ _ _ hE
  simp at q0 q1 q2 q3 q4
  go_wp2_with fail
  refine (CT.out _).mono ?_
  rintro e w3 ⟨rfl, x3⟩
  have Z3 := x3.size
  try simp only [World.size_alloc] at Z3
  have hE := blk_call hE x3
  have hW := blk_call hW x3
  have bW := bW.trans (x3.mono bW.size)
  clear q0 q1 q2 q3 q4
  clear x3
  go_wp2_with fail
  refine (C2.out _).mono ?_
  rintro e w4 ⟨rfl, x4⟩
  have Z4 := x4.size
  try simp only [World.size_alloc] at Z4
  have hE := blk_call hE x4
  have hW := blk_call hW x4
  have bW := bW.trans (x4.mono bW.size)
  clear x4
  have hG := heap_new w4 (.cells #[.int .i64 r.1.total, .int .i64 r.1.free, .int .i64 r.1.held, .int .i64 r.1.sold, .int .i64 r.1.tied] 25)
  have y : Below w4.heap.size w4 (w4.alloc (.cells #[.int .i64 r.1.total, .int .i64 r.1.free, .int .i64 r.1.held, .int .i64 r.1.sold, .int .i64 r.1.tied] 25)) := (Below.refl _ _).alloc (Nat.le_refl _) _
  have hE := blk_call hE y
  have hW := blk_call hW y
  have bW := bW.trans (y.mono bW.size)
  clear y
  have c0 := cell_of_row _ _ 0 _ _ _ hW
  have c1 := cell_of_row _ _ 1 _ _ _ hW
  have c2 := cell_of_row _ _ 2 _ _ _ hW
  have c3 := cell_of_row _ _ 3 _ _ _ hW
  have c4 := cell_of_row _ _ 4 _ _ _ hW
  simp at c0 c1 c2 c3 c4
  have d0 := cell_of_row _ _ 0 _ _ _ hG
  have d1 := cell_of_row _ _ 1 _ _ _ hG
  have d2 := cell_of_row _ _ 2 _ _ _ hG
  have d3 := cell_of_row _ _ 3 _ _ _ hG
  have d4 := cell_of_row _ _ 4 _ _ _ hG
  simp at d0 d1 d2 d3 d4
  go_wp2_with fail
  refine (CE.out _).mono ?_
  rintro e w5 ⟨rfl, x5⟩
  have Z5 := x5.size
  try simp only [World.size_alloc] at Z5
  have hE := blk_call hE x5
  have hW := blk_call hW x5
  have hG := blk_call hG x5
  have bW := bW.trans (x5.mono bW.size)
  clear c0 c1 c2 c3 c4 d0 d1 d2 d3 d4
  clear x5
  have HB := Lib.hid bW
  clear bW hE hW hG
  go_wp2
  go_ret
  exact ⟨rfl, HB.out⟩
set_option maxRecDepth 100000 in
set_option maxHeartbeats 3200000 in
theorem FnExactSeatsUntie_walk (l : Le) (n : Int) (w : World) (hf : l.fits) (hn : inI n) : Calls Try.prog 12 #[leA l, .int .i64 n] w fun e w' => e = .returned (.bool true) ∧ Below w.heap.size w w' := by
  have CT := Lib.hid (fun w => toLedger_any l w)
  have C1 := Lib.hid (fun w => seatsUntie_spec l n w)
  have C2 := Lib.hid (fun w => seatsUntie_impl l n w hf hn)
  generalize turnV l n 0 0 0 (-n) = r at *
  have CE := Lib.hid (fun w => eqLedger_same r.1 w)
  have nB : (r.2 != r.2) = false := by simp
  clear hf hn
  have bW : Below w.heap.size w (w.alloc (.cells #[.int .i64 l.total, .int .i64 l.free, .int .i64 l.held, .int .i64 l.sold, .int .i64 l.tied] 33)) := (Below.refl _ _).alloc (Nat.le_refl _) _
  have hE := heap_new w (.cells #[.int .i64 l.total, .int .i64 l.free, .int .i64 l.held, .int .i64 l.sold, .int .i64 l.tied] 33)
  unfold leA at CT C1 C2 CE ⊢
  go_enter Try.func12, Try.ntmps12
  have q0 := cell_of_row _ _ 0 _ _ _ hE
  have q1 := cell_of_row _ _ 1 _ _ _ hE
  have q2 := cell_of_row _ _ 2 _ _ _ hE
  have q3 := cell_of_row _ _ 3 _ _ _ hE
  have q4 := cell_of_row _ _ 4 _ _ _ hE
  simp at q0 q1 q2 q3 q4
  go_wp2_with fail
  refine (CT.out _).mono ?_
  rintro e w1 ⟨rfl, x1⟩
  have Z1 := x1.size
  try simp only [World.size_alloc] at Z1
  have hE := blk_call hE x1
  have bW := bW.trans (x1.mono bW.size)
  clear q0 q1 q2 q3 q4
  clear x1
  go_wp2_with fail
  refine (C1.out _).mono ?_
  rintro e w2 ⟨rfl, x2⟩
  have Z2 := x2.size
  try simp only [World.size_alloc] at Z2
  have hE := blk_call hE x2
  have bW := bW.trans (x2.mono bW.size)
  clear x2
  have hW := heap_new w2 (.cells #[.int .i64 r.1.total, .int .i64 r.1.free, .int .i64 r.1.held, .int .i64 r.1.sold, .int .i64 r.1.tied] 25)
  have y : Below w2.heap.size w2 (w2.alloc (.cells #[.int .i64 r.1.total, .int .i64 r.1.free, .int .i64 r.1.held, .int .i64 r.1.sold, .int .i64 r.1.tied] 25)) := (Below.refl _ _).alloc (Nat.le_refl _) _
  have hE := blk_call hE y
  have bW := bW.trans (y.mono bW.size)
  clear y
  have q0 := cell_of_row _ _ 0 _ _ _ hE
  have q1 := cell_of_row _ _ 1 _ _ _ hE
  have q2 := cell_of_row _ _ 2 _ _ _ hE
  have q3 := cell_of_row _ _ 3 _ _ _ hE
  have q4 := cell_of_row _ _ 4 _ _ _ hE
  simp at q0 q1 q2 q3 q4
  go_wp2_with fail
  refine (CT.out _).mono ?_
  rintro e w3 ⟨rfl, x3⟩
  have Z3 := x3.size
  try simp only [World.size_alloc] at Z3
  have hE := blk_call hE x3
  have hW := blk_call hW x3
  have bW := bW.trans (x3.mono bW.size)
  clear q0 q1 q2 q3 q4
  clear x3
  go_wp2_with fail
  refine (C2.out _).mono ?_
  rintro e w4 ⟨rfl, x4⟩
  have Z4 := x4.size
  try simp only [World.size_alloc] at Z4
  have hE := blk_call hE x4
  have hW := blk_call hW x4
  have bW := bW.trans (x4.mono bW.size)
  clear x4
  have hG := heap_new w4 (.cells #[.int .i64 r.1.total, .int .i64 r.1.free, .int .i64 r.1.held, .int .i64 r.1.sold, .int .i64 r.1.tied] 25)
  have y : Below w4.heap.size w4 (w4.alloc (.cells #[.int .i64 r.1.total, .int .i64 r.1.free, .int .i64 r.1.held, .int .i64 r.1.sold, .int .i64 r.1.tied] 25)) := (Below.refl _ _).alloc (Nat.le_refl _) _
  have hE := blk_call hE y
  have hW := blk_call hW y
  have bW := bW.trans (y.mono bW.size)
  clear y
  have c0 := cell_of_row _ _ 0 _ _ _ hW
  have c1 := cell_of_row _ _ 1 _ _ _ hW
  have c2 := cell_of_row _ _ 2 _ _ _ hW
  have c3 := cell_of_row _ _ 3 _ _ _ hW
  have c4 := cell_of_row _ _ 4 _ _ _ hW
  simp at c0 c1 c2 c3 c4
  have d0 := cell_of_row _ _ 0 _ _ _ hG
  have d1 := cell_of_row _ _ 1 _ _ _ hG
  have d2 := cell_of_row _ _ 2 _ _ _ hG
  have d3 := cell_of_row _ _ 3 _ _ _ hG
  have d4 := cell_of_row _ _ 4 _ _ _ hG
  simp at d0 d1 d2 d3 d4
  go_wp2_with fail
  refine (CE.out _).mono ?_
  rintro e w5 ⟨rfl, x5⟩
  have Z5 := x5.size
  try simp only [World.size_alloc] at Z5
  have hE := blk_call hE x5
  have hW := blk_call hW x5
  have hG := blk_call hG x5
  have bW := bW.trans (x5.mono bW.size)
  clear c0 c1 c2 c3 c4 d0 d1 d2 d3 d4
  clear x5
  have HB := Lib.hid bW
  clear bW hE hW hG
  go_wp2
  go_ret
  exact ⟨rfl, HB.out⟩
end Go.Proofs.Ytjnmdnpknlakhaa
