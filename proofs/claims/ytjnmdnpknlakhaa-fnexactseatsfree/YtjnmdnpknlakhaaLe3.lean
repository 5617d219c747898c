/- SeatsHold .. of the model. -/
import Derived.Test.YtjnmdnpknlakhaaRows
import Derived.Test.YtjnmdnpknlakhaaLe2
namespace Go.Proofs.Ytjnmdnpknlakhaa
open Go.RowKit
set_option linter.unusedSimpArgs false
set_option linter.unusedVariables false
set_option maxRecDepth 100000 in
set_option maxHeartbeats 1600000 in
theorem seatsHold_spec (l : Le) (n : Int) (w : World) : Calls Try.prog 24 #[leA l, .int .i64 n] w fun e w' => e = .returned (.tuple #[leA (turnV l n (-n) n 0 0).1, .bool (turnV l n (-n) n 0 0).2]) ∧ Below w.heap.size w w' := by
  have T0 := Lib.hid (two_at w ((w.alloc (.cells #[.int .i64 l.total, .int .i64 l.free, .int .i64 l.held, .int .i64 l.sold, .int .i64 l.tied] 25)).alloc (.cells #[.int .i64 0, .int .i64 0, .int .i64 0, .int .i64 0, .int .i64 0] 25)) _ _ (Below.refl _ _))
  have C := Lib.hid (l8Turn_spec l n (-1) 1 0 0 (-n) n 0 0 ((w.alloc (.cells #[.int .i64 l.total, .int .i64 l.free, .int .i64 l.held, .int .i64 l.sold, .int .i64 l.tied] 25)).alloc (.cells #[.int .i64 0, .int .i64 0, .int .i64 0, .int .i64 0, .int .i64 0] 25)) (by omega) (by omega) (by omega) (by omega) (by omega))
  generalize turnV l n (-n) n 0 0 = r at *
  unfold leA at C ⊢
  go_enter Try.func24, Try.ntmps24
  go_wp2_with fail
  refine C.out.mono ?_
  rintro e w1 ⟨rfl, b1⟩
  have hz := blk_call T0.out.2.1 b1
  have B1 := T0.out.2.2.trans (b1.mono T0.out.2.2.size)
  clear C T0 b1
  have e0 := cell_of_row _ _ 0 _ _ _ hz
  have e1 := cell_of_row _ _ 1 _ _ _ hz
  have e2 := cell_of_row _ _ 2 _ _ _ hz
  have e3 := cell_of_row _ _ 3 _ _ _ hz
  have e4 := cell_of_row _ _ 4 _ _ _ hz
  simp at e0 e1 e2 e3 e4
  have f0 := frozen_of_row _ _ 0 _ _ hz
  have f1 := frozen_of_row _ _ 1 _ _ hz
  have f2 := frozen_of_row _ _ 2 _ _ hz
  have f3 := frozen_of_row _ _ 3 _ _ hz
  have f4 := frozen_of_row _ _ 4 _ _ hz
  have HN : Hid (Below w.heap.size w (putLe w1 (w.heap.size + 1) r.1)) := putLe_below B1 (by omega)
  unfold putLe at HN
  go_wp2
  simp [bodyPost, results, Try.results24, go_sem, e0, e1, e2, e3, e4]
  exact HN.out
set_option maxRecDepth 100000 in
set_option maxHeartbeats 1600000 in
theorem seatsDrop_spec (l : Le) (n : Int) (w : World) : Calls Try.prog 31 #[leA l, .int .i64 n] w fun e w' => e = .returned (.tuple #[leA (turnV l n n (-n) 0 0).1, .bool (turnV l n n (-n) 0 0).2]) ∧ Below w.heap.size w w' := by
  have T0 := Lib.hid (two_at w ((w.alloc (.cells #[.int .i64 l.total, .int .i64 l.free, .int .i64 l.held, .int .i64 l.sold, .int .i64 l.tied] 25)).alloc (.cells #[.int .i64 0, .int .i64 0, .int .i64 0, .int .i64 0, .int .i64 0] 25)) _ _ (Below.refl _ _))
  have C := Lib.hid (l8Turn_spec l n 1 (-1) 0 0 n (-n) 0 0 ((w.alloc (.cells #[.int .i64 l.total, .int .i64 l.free, .int .i64 l.held, .int .i64 l.sold, .int .i64 l.tied] 25)).alloc (.cells #[.int .i64 0, .int .i64 0, .int .i64 0, .int .i64 0, .int .i64 0] 25)) (by omega) (by omega) (by omega) (by omega) (by omega))
  generalize turnV l n n (-n) 0 0 = r at *
  unfold leA at C ⊢
  go_enter Try.func31, Try.ntmps31
  go_wp2_with fail
  refine C.out.mono ?_
  rintro e w1 ⟨rfl, b1⟩
  have hz := blk_call T0.out.2.1 b1
  have B1 := T0.out.2.2.trans (b1.mono T0.out.2.2.size)
  clear C T0 b1
  have e0 := cell_of_row _ _ 0 _ _ _ hz
  have e1 := cell_of_row _ _ 1 _ _ _ hz
  have e2 := cell_of_row _ _ 2 _ _ _ hz
  have e3 := cell_of_row _ _ 3 _ _ _ hz
  have e4 := cell_of_row _ _ 4 _ _ _ hz
  simp at e0 e1 e2 e3 e4
  have f0 := frozen_of_row _ _ 0 _ _ hz
  have f1 := frozen_of_row _ _ 1 _ _ hz
  have f2 := frozen_of_row _ _ 2 _ _ hz
  have f3 := frozen_of_row _ _ 3 _ _ hz
  have f4 := frozen_of_row _ _ 4 _ _ hz
  have HN : Hid (Below w.heap.size w (putLe w1 (w.heap.size + 1) r.1)) := putLe_below B1 (by omega)
  unfold putLe at HN
  go_wp2
  simp [bodyPost, results, Try.results31, go_sem, e0, e1, e2, e3, e4]
  exact HN.out
set_option maxRecDepth 100000 in
set_option maxHeartbeats 1600000 in
theorem seatsSell_spec (l : Le) (n : Int) (w : World) : Calls Try.prog 25 #[leA l, .int .i64 n] w fun e w' => e = .returned (.tuple #[leA (turnV l n 0 (-n) n 0).1, .bool (turnV l n 0 (-n) n 0).2]) ∧ Below w.heap.size w w' := by
  have T0 := Lib.hid (two_at w ((w.alloc (.cells #[.int .i64 l.total, .int .i64 l.free, .int .i64 l.held, .int .i64 l.sold, .int .i64 l.tied] 25)).alloc (.cells #[.int .i64 0, .int .i64 0, .int .i64 0, .int .i64 0, .int .i64 0] 25)) _ _ (Below.refl _ _))
  have C := Lib.hid (l8Turn_spec l n 0 (-1) 1 0 0 (-n) n 0 ((w.alloc (.cells #[.int .i64 l.total, .int .i64 l.free, .int .i64 l.held, .int .i64 l.sold, .int .i64 l.tied] 25)).alloc (.cells #[.int .i64 0, .int .i64 0, .int .i64 0, .int .i64 0, .int .i64 0] 25)) (by omega) (by omega) (by omega) (by omega) (by omega))
  generalize turnV l n 0 (-n) n 0 = r at *
  unfold leA at C ⊢
  go_enter Try.func25, Try.ntmps25
  go_wp2_with fail
  refine C.out.mono ?_
  rintro e w1 ⟨rfl, b1⟩
  have hz := blk_call T0.out.2.1 b1
  have B1 := T0.out.2.2.trans (b1.mono T0.out.2.2.size)
  clear C T0 b1
  have e0 := cell_of_row _ _ 0 _ _ _ hz
  have e1 := cell_of_row _ _ 1 _ _ _ hz
  have e2 := cell_of_row _ _ 2 _ _ _ hz
  have e3 := cell_of_row _ _ 3 _ _ _ hz
  have e4 := cell_of_row _ _ 4 _ _ _ hz
  simp at e0 e1 e2 e3 e4
  have f0 := frozen_of_row _ _ 0 _ _ hz
  have f1 := frozen_of_row _ _ 1 _ _ hz
  have f2 := frozen_of_row _ _ 2 _ _ hz
  have f3 := frozen_of_row _ _ 3 _ _ hz
  have f4 := frozen_of_row _ _ 4 _ _ hz
  have HN : Hid (Below w.heap.size w (putLe w1 (w.heap.size + 1) r.1)) := putLe_below B1 (by omega)
  unfold putLe at HN
  go_wp2
  simp [bodyPost, results, Try.results25, go_sem, e0, e1, e2, e3, e4]
  exact HN.out
set_option maxRecDepth 100000 in
set_option maxHeartbeats 1600000 in
theorem seatsFree_spec (l : Le) (n : Int) (w : World) : Calls Try.prog 32 #[leA l, .int .i64 n] w fun e w' => e = .returned (.tuple #[leA (turnV l n n 0 (-n) 0).1, .bool (turnV l n n 0 (-n) 0).2]) ∧ Below w.heap.size w w' := by
  have T0 := Lib.hid (two_at w ((w.alloc (.cells #[.int .i64 l.total, .int .i64 l.free, .int .i64 l.held, .int .i64 l.sold, .int .i64 l.tied] 25)).alloc (.cells #[.int .i64 0, .int .i64 0, .int .i64 0, .int .i64 0, .int .i64 0] 25)) _ _ (Below.refl _ _))
  have C := Lib.hid (l8Turn_spec l n 1 0 (-1) 0 n 0 (-n) 0 ((w.alloc (.cells #[.int .i64 l.total, .int .i64 l.free, .int .i64 l.held, .int .i64 l.sold, .int .i64 l.tied] 25)).alloc (.cells #[.int .i64 0, .int .i64 0, .int .i64 0, .int .i64 0, .int .i64 0] 25)) (by omega) (by omega) (by omega) (by omega) (by omega))
  generalize turnV l n n 0 (-n) 0 = r at *
  unfold leA at C ⊢
  go_enter Try.func32, Try.ntmps32
  go_wp2_with fail
  refine C.out.mono ?_
  rintro e w1 ⟨rfl, b1⟩
  have hz := blk_call T0.out.2.1 b1
  have B1 := T0.out.2.2.trans (b1.mono T0.out.2.2.size)
  clear C T0 b1
  have e0 := cell_of_row _ _ 0 _ _ _ hz
  have e1 := cell_of_row _ _ 1 _ _ _ hz
  have e2 := cell_of_row _ _ 2 _ _ _ hz
  have e3 := cell_of_row _ _ 3 _ _ _ hz
  have e4 := cell_of_row _ _ 4 _ _ _ hz
  simp at e0 e1 e2 e3 e4
  have f0 := frozen_of_row _ _ 0 _ _ hz
  have f1 := frozen_of_row _ _ 1 _ _ hz
  have f2 := frozen_of_row _ _ 2 _ _ hz
  have f3 := frozen_of_row _ _ 3 _ _ hz
  have f4 := frozen_of_row _ _ 4 _ _ hz
  have HN : Hid (Below w.heap.size w (putLe w1 (w.heap.size + 1) r.1)) := putLe_below B1 (by omega)
  unfold putLe at HN
  go_wp2
  simp [bodyPost, results, Try.results32, go_sem, e0, e1, e2, e3, e4]
  exact HN.out
set_option maxRecDepth 100000 in
set_option maxHeartbeats 1600000 in
theorem seatsTie_spec (l : Le) (n : Int) (w : World) : Calls Try.prog 26 #[leA l, .int .i64 n] w fun e w' => e = .returned (.tuple #[leA (turnV l n 0 0 0 n).1, .bool (turnV l n 0 0 0 n).2]) ∧ Below w.heap.size w w' := by
  have T0 := Lib.hid (two_at w ((w.alloc (.cells #[.int .i64 l.total, .int .i64 l.free, .int .i64 l.held, .int .i64 l.sold, .int .i64 l.tied] 25)).alloc (.cells #[.int .i64 0, .int .i64 0, .int .i64 0, .int .i64 0, .int .i64 0] 25)) _ _ (Below.refl _ _))
  have C := Lib.hid (l8Turn_spec l n 0 0 0 1 0 0 0 n ((w.alloc (.cells #[.int .i64 l.total, .int .i64 l.free, .int .i64 l.held, .int .i64 l.sold, .int .i64 l.tied] 25)).alloc (.cells #[.int .i64 0, .int .i64 0, .int .i64 0, .int .i64 0, .int .i64 0] 25)) (by omega) (by omega) (by omega) (by omega) (by omega))
  generalize turnV l n 0 0 0 n = r at *
  unfold leA at C ⊢
  go_enter Try.func26, Try.ntmps26
  go_wp2_with fail
  refine C.out.mono ?_
  rintro e w1 ⟨rfl, b1⟩
  have hz := blk_call T0.out.2.1 b1
  have B1 := T0.out.2.2.trans (b1.mono T0.out.2.2.size)
  clear C T0 b1
  have e0 := cell_of_row _ _ 0 _ _ _ hz
  have e1 := cell_of_row _ _ 1 _ _ _ hz
  have e2 := cell_of_row _ _ 2 _ _ _ hz
  have e3 := cell_of_row _ _ 3 _ _ _ hz
  have e4 := cell_of_row _ _ 4 _ _ _ hz
  simp at e0 e1 e2 e3 e4
  have f0 := frozen_of_row _ _ 0 _ _ hz
  have f1 := frozen_of_row _ _ 1 _ _ hz
  have f2 := frozen_of_row _ _ 2 _ _ hz
  have f3 := frozen_of_row _ _ 3 _ _ hz
  have f4 := frozen_of_row _ _ 4 _ _ hz
  have HN : Hid (Below w.heap.size w (putLe w1 (w.heap.size + 1) r.1)) := putLe_below B1 (by omega)
  unfold putLe at HN
  go_wp2
  simp [bodyPost, results, Try.results26, go_sem, e0, e1, e2, e3, e4]
  exact HN.out
set_option maxRecDepth 100000 in
set_option maxHeartbeats 1600000 in
theorem seatsUntie_spec (l : Le) (n : Int) (w : World) : Calls Try.prog 33 #[leA l, .int .i64 n] w fun e w' => e = .returned (.tuple #[leA (turnV l n 0 0 0 (-n)).1, .bool (turnV l n 0 0 0 (-n)).2]) ∧ Below w.heap.size w w' := by
  have T0 := Lib.hid (two_at w ((w.alloc (.cells #[.int .i64 l.total, .int .i64 l.free, .int .i64 l.held, .int .i64 l.sold, .int .i64 l.tied] 25)).alloc (.cells #[.int .i64 0, .int .i64 0, .int .i64 0, .int .i64 0, .int .i64 0] 25)) _ _ (Below.refl _ _))
  have C := Lib.hid (l8Turn_spec l n 0 0 0 (-1) 0 0 0 (-n) ((w.alloc (.cells #[.int .i64 l.total, .int .i64 l.free, .int .i64 l.held, .int .i64 l.sold, .int .i64 l.tied] 25)).alloc (.cells #[.int .i64 0, .int .i64 0, .int .i64 0, .int .i64 0, .int .i64 0] 25)) (by omega) (by omega) (by omega) (by omega) (by omega))
  generalize turnV l n 0 0 0 (-n) = r at *
  unfold leA at C ⊢
  go_enter Try.func33, Try.ntmps33
  go_wp2_with fail
  refine C.out.mono ?_
  rintro e w1 ⟨rfl, b1⟩
  have hz := blk_call T0.out.2.1 b1
  have B1 := T0.out.2.2.trans (b1.mono T0.out.2.2.size)
  clear C T0 b1
  have e0 := cell_of_row _ _ 0 _ _ _ hz
  have e1 := cell_of_row _ _ 1 _ _ _ hz
  have e2 := cell_of_row _ _ 2 _ _ _ hz
  have e3 := cell_of_row _ _ 3 _ _ _ hz
  have e4 := cell_of_row _ _ 4 _ _ _ hz
  simp at e0 e1 e2 e3 e4
  have f0 := frozen_of_row _ _ 0 _ _ hz
  have f1 := frozen_of_row _ _ 1 _ _ hz
  have f2 := frozen_of_row _ _ 2 _ _ hz
  have f3 := frozen_of_row _ _ 3 _ _ hz
  have f4 := frozen_of_row _ _ 4 _ _ hz
  have HN : Hid (Below w.heap.size w (putLe w1 (w.heap.size + 1) r.1)) := putLe_below B1 (by omega)
  unfold putLe at HN
  go_wp2
  simp [bodyPost, results, Try.results33, go_sem, e0, e1, e2, e3, e4]
  exact HN.out
end Go.Proofs.Ytjnmdnpknlakhaa
