/- The walk of the law FnSeats. -/
import Derived.Test.YtjnmdnpknlakhaaRows
import Derived.Test.YtjnmdnpknlakhaaLeI
import Derived.Test.YtjnmdnpknlakhaaLe4
namespace Go.Proofs.Ytjnmdnpknlakhaa
open Go.RowKit
set_option linter.unusedSimpArgs false
set_option linter.unusedVariables false
theorem turnV_fine {l : Le} {n F H S T : Int} (h : l.fine) : (turnV l n F H S T).1.fine := by
  unfold turnV
  split
  · rename_i h2; exact h2.2.2
  · exact h
theorem turnV_same {l : Le} {n F H S T : Int} : (turnV l n F H S T).2 = false → (turnV l n F H S T).1 = l := by
  unfold turnV
  split
  · intro h; cases h
  · intro _; rfl
theorem fine_fits {l : Le} (h : l.fine) : l.fits := by
  obtain ⟨g1, g2, g3, g4, g5, g6⟩ := h
  unfold Le.fits inI
  omega
theorem putLe_block {w : World} {b k : Nat} {q : Le} (h : k ≠ b) : (putLe w b q).heap[k]? = w.heap[k]? := by
  unfold putLe
  rw [heap_set_ne _ b 4 _ h, heap_set_ne _ b 3 _ h, heap_set_ne _ b 2 _ h, heap_set_ne _ b 1 _ h, heap_set_ne _ b 0 _ h]
theorem putLe_heap {w : World} {b : Nat} {q q2 : Le} {t : TypeId} (h : w.heap[b]? = some (.cells #[.int .i64 q.total, .int .i64 q.free, .int .i64 q.held, .int .i64 q.sold, .int .i64 q.tied] t (0, 0))) : (putLe w b q2).heap[b]? = some (.cells #[.int .i64 q2.total, .int .i64 q2.free, .int .i64 q2.held, .int .i64 q2.sold, .int .i64 q2.tied] t (0, 0)) := by
  unfold putLe
  have h := Go.heap_setCell_same _ b 0 _ t (.int .i64 q2.total) h
  have h := Go.heap_setCell_same _ b 1 _ t (.int .i64 q2.free) h
  have h := Go.heap_setCell_same _ b 2 _ t (.int .i64 q2.held) h
  have h := Go.heap_setCell_same _ b 3 _ t (.int .i64 q2.sold) h
  have h := Go.heap_setCell_same _ b 4 _ t (.int .i64 q2.tied) h
  simpa using h
theorem tmod_nat (x m : Nat) : Int.tmod (x : Int) (m : Int) = ((x % m : Nat) : Int) := by
  rw [Int.tmod_eq_emod_of_nonneg (by omega), Int.natCast_emod]
set_option maxRecDepth 100000 in
set_option maxHeartbeats 6400000 in
theorem FnSeats_walk (A : Option Addr) (l : List Nat) (cap : Nat) (w : World) (hA : Bts w w.heap.size A l) (hb : AllB l) (hm : l.length ≤ maxLen) :
    Calls Try.prog 3 #[.slice A l.length cap] w fun e w' => e = .returned (.bool true) ∧ Below w.heap.size w w' := by
  by_cases hbig : 1048576 < l.length
  · go_enter Try.func3, Try.ntmps3
    go_wp2_with fail
    refine (big_yes _ _ _ _ hbig).mono ?_
    rintro e w' ⟨rfl, rfl⟩
    go_wp2
    go_ret
    exact ⟨rfl, Below.refl _ _⟩
  have hl : l.length ≤ 1048576 := by omega
  clear hbig hm
  have CA := Lib.hid (fun i (hi : i ≤ 100) w' (h : Below w.heap.size w w') => at0_any A l cap w.heap.size i w' (by omega) (by omega) (hA.below h) hb)
  go_enter Try.func3, Try.ntmps3
  go_wp2_with fail
  refine (big_no _ _ _ _ hl).mono ?_
  rintro e w' ⟨rfl, rfl⟩
  go_wp2_with fail
  refine (CA.out 0 (by omega) w (Below.refl _ _)).mono ?_
  rintro e w' ⟨rfl, rfl⟩
  have HAt := Lib.hid (fun i => at0N_lt hb i)
  have hT0 := tmod_nat (at0N l 0) 60
  have hm0 : at0N l 0 % 60 < 60 := Nat.mod_lt _ (by omega)
  generalize at0N l 0 = x0 at *
  generalize x0 % 60 = m0 at *
  have hT0' : Int.tmod (x0 : Int) 60 = (m0 : Int) := hT0
  clear hT0
  have CN := Lib.hid (ledgerNew_impl (1 + (m0 : Int)) w (by unfold inI; omega))
  rw [show ledgerNewV (1 + (m0 : Int)) = (⟨1 + (m0 : Int), 0, 0, 1 + (m0 : Int), 0⟩, true) from if_pos (by omega)] at CN
  unfold leA at CN
  go_wp2_with fail
  refine CN.out.mono ?_
  rintro e w1 ⟨rfl, b1⟩
  clear CN hT0'
  have hq0 : Le.fine ⟨1 + (m0 : Int), 0, 0, 1 + (m0 : Int), 0⟩ := (ledgerNew_fine _).2 (by omega)
  have hB1 := heap_new w1 (.cells #[.int .i64 (1 + (m0 : Int)), .int .i64 0, .int .i64 0, .int .i64 (1 + (m0 : Int)), .int .i64 0] 25)
  have B1 := b1.alloc b1.size (.cells #[.int .i64 (1 + (m0 : Int)), .int .i64 0, .int .i64 0, .int .i64 (1 + (m0 : Int)), .int .i64 0] 25)
  have hbw := b1.size
  have HB1 := Lib.hid hB1
  have HBB := Lib.hid B1
  clear hB1 B1 b1
  have ne0 : ((1 + (m0 : Int)) != (1 + (m0 : Int))) = false := by simp
  go_wp2
  clear ne0
  generalize w1.heap.size = b at *
  go_loopw [5] (fun i wr => ∃ (j : Nat) (q : Le), j ≤ 12 ∧ i = .int .i64 j ∧ q.fine ∧ wr.heap[b]? = some (.cells #[.int .i64 q.total, .int .i64 q.free, .int .i64 q.held, .int .i64 q.sold, .int .i64 q.tied] 25) ∧ Below w.heap.size w wr) (fun i _ => 12 - (intOf i).toNat)
  case atStart => exact ⟨0, ⟨1 + (m0 : Int), 0, 0, 1 + (m0 : Int), 0⟩, by omega, rfl, hq0, HB1.out, HBB.out⟩
  case round =>
    clear HB1 HBB hq0 hm0
    obtain ⟨j, q, hj0, rfl, hq, hB, hbr⟩ := hrel
    by_cases hj : j < 12
    · have C1 : Hid (Calls Try.prog 15 #[.slice A l.length cap, .int .i64 ((j : Int) + 1)] wr _) := CA.out (j + 1) (by omega) wr hbr
      have h1 := HAt.out (j + 1)
      have hT1 := tmod_nat (at0N l (j + 1)) 9
      have hn : at0N l (j + 1) % 9 < 9 := Nat.mod_lt _ (by omega)
      generalize at0N l (j + 1) = x1 at *
      generalize x1 % 9 = n at *
      have hT1' : Int.tmod (x1 : Int) 9 = (n : Int) := hT1
      clear hT1
      have ltb := blk_lt hB
      have hB3 := blk_alloc hB (.cells #[.int .i64 q.total, .int .i64 q.free, .int .i64 q.held, .int .i64 q.sold, .int .i64 q.tied] 25)
      have hS3 := heap_new wr (.cells #[.int .i64 q.total, .int .i64 q.free, .int .i64 q.held, .int .i64 q.sold, .int .i64 q.tied] 25)
      have B3 := hbr.alloc hbr.size (.cells #[.int .i64 q.total, .int .i64 q.free, .int .i64 q.held, .int .i64 q.sold, .int .i64 q.tied] 25)
      have C2 : Hid (Calls Try.prog 15 #[.slice A l.length cap, .int .i64 ((j : Int) + 20)] (wr.alloc (.cells #[.int .i64 q.total, .int .i64 q.free, .int .i64 q.held, .int .i64 q.sold, .int .i64 q.tied] 25)) _) := CA.out (j + 20) (by omega) _ B3
      have h2 := HAt.out (j + 20)
      have hT2 := tmod_nat (at0N l (j + 20)) 6
      have hk : at0N l (j + 20) % 6 < 6 := Nat.mod_lt _ (by omega)
      generalize at0N l (j + 20) = x2 at *
      generalize x2 % 6 = k at *
      have hT2' : Int.tmod (x2 : Int) 6 = (k : Int) := hT2
      have HT2 := Lib.hid hT2'
      clear hT2 hT2'
      have c0 := cell_of_row _ _ 0 _ _ _ hB
      have c1 := cell_of_row _ _ 1 _ _ _ hB
      have c2 := cell_of_row _ _ 2 _ _ _ hB
      have c3 := cell_of_row _ _ 3 _ _ _ hB
      have c4 := cell_of_row _ _ 4 _ _ _ hB
      simp at c0 c1 c2 c3 c4
      go_wp2_with fail
      refine C1.out.mono ?_
      rintro e w' ⟨rfl, rfl⟩
      clear C1
      go_wp2_with fail
      refine C2.out.mono ?_
      rintro e w' ⟨rfl, rfl⟩
      clear C2 c0 c1 c2 c3 c4 hT1' hB
      have hT2' := HT2.out
      obtain ⟨w3, hw3⟩ : ∃ u, wr.alloc (.cells #[.int .i64 q.total, .int .i64 q.free, .int .i64 q.held, .int .i64 q.sold, .int .i64 q.tied] 25) = u := ⟨_, rfl⟩
      rw [hw3] at hB3 hS3 B3 ⊢
      clear hw3 hbr
      have hks : k = 0 ∨ k = 1 ∨ k = 2 ∨ k = 3 ∨ k = 4 ∨ k = 5 := by omega
      rcases hks with rfl | rfl | rfl | rfl | rfl | rfl
      · skip
        have CF := Lib.hid (seatsFree_impl q (n : Int) w3 (fine_fits hq) (by unfold inI; omega))
        have hrf : (turnV q (n : Int) (n : Int) 0 (-(n : Int)) 0).1.fine := turnV_fine hq
        have hrs : (turnV q (n : Int) (n : Int) 0 (-(n : Int)) 0).2 = false → (turnV q (n : Int) (n : Int) 0 (-(n : Int)) 0).1 = q := turnV_same
        generalize turnV q (n : Int) (n : Int) 0 (-(n : Int)) 0 = r at *
        unfold leA at CF
        have c0 := cell_of_row _ _ 0 _ _ _ hB3
        have c1 := cell_of_row _ _ 1 _ _ _ hB3
        have c2 := cell_of_row _ _ 2 _ _ _ hB3
        have c3 := cell_of_row _ _ 3 _ _ _ hB3
        have c4 := cell_of_row _ _ 4 _ _ _ hB3
        simp at c0 c1 c2 c3 c4
        go_wp2_with fail
        refine CF.out.mono ?_
        rintro e w5 ⟨rfl, b5⟩
        clear c0 c1 c2 c3 c4 CF
        have hB5 := blk_call hB3 b5
        have hS := blk_call hS3 b5
        have B5 := B3.trans (b5.mono B3.size)
        clear hB3 hS3 B3 b5
        obtain ⟨r1, r2⟩ := r
        have hL := putLe_heap (q2 := r1) hB5
        have hS : (putLe w5 b r1).heap[wr.heap.size]? = some (.cells #[.int .i64 q.total, .int .i64 q.free, .int .i64 q.held, .int .i64 q.sold, .int .i64 q.tied] 25) := (putLe_block (by omega)).trans hS
        have BU : Below w.heap.size w (putLe w5 b r1) := putLe_below B5 hbw
        have c0 := cell_of_row _ _ 0 _ _ _ hB5
        have c1 := cell_of_row _ _ 1 _ _ _ hB5
        have c2 := cell_of_row _ _ 2 _ _ _ hB5
        have c3 := cell_of_row _ _ 3 _ _ _ hB5
        have c4 := cell_of_row _ _ 4 _ _ _ hB5
        simp at c0 c1 c2 c3 c4
        have z0 := frozen_of_row _ _ 0 _ _ hB5
        have z1 := frozen_of_row _ _ 1 _ _ hB5
        have z2 := frozen_of_row _ _ 2 _ _ hB5
        have z3 := frozen_of_row _ _ 3 _ _ hB5
        have z4 := frozen_of_row _ _ 4 _ _ hB5
        obtain ⟨u, hu⟩ : ∃ u, putLe w5 b r1 = u := ⟨_, rfl⟩
        rw [hu] at hL hS BU
        unfold putLe at hu
        clear hB5 B5
        go_upto_region 23 with fail
        try rw [hu]
        clear hu c0 c1 c2 c3 c4 z0 z1 z2 z3 z4
        have hrf : Le.fine r1 := hrf
        have CO : Hid (∀ w, Calls Try.prog 21 #[.agg #[.int .i64 r1.total, .int .i64 r1.free, .int .i64 r1.held, .int .i64 r1.sold, .int .i64 r1.tied]] w fun e w' => e = .returned (.bool true) ∧ Below w.heap.size w w') := fun w => by have h := ledgerOk_spec r1 w; rw [decide_eq_true hrf] at h; exact h
        have CI : Hid (∀ w, Calls Try.prog 22 #[.agg #[.int .i64 r1.total, .int .i64 r1.free, .int .i64 r1.held, .int .i64 r1.sold, .int .i64 r1.tied]] w fun e w' => e = .returned (.bool true) ∧ Below w.heap.size w w') := fun w => by have h := ledgerOk_impl r1 w (fine_fits hrf); rw [decide_eq_true hrf] at h; exact h
        obtain ⟨g1, g2, g3, g4, g5, g6⟩ := id hrf
        have hsum : (r1.free + r1.held + r1.sold != r1.total) = false := by simp [g5]
        have hrs : r2 = false → r1 = q := hrs
        clear g5
        cases r2 with
        | false =>
          obtain rfl := hrs rfl
          clear hrs hq
          have m0 : (r1.total == r1.total) = true := by simp
          have k0 : (r1.total != r1.total) = false := by simp
          have m1 : (r1.free == r1.free) = true := by simp
          have k1 : (r1.free != r1.free) = false := by simp
          have m2 : (r1.held == r1.held) = true := by simp
          have k2 : (r1.held != r1.held) = false := by simp
          have m3 : (r1.sold == r1.sold) = true := by simp
          have k3 : (r1.sold != r1.sold) = false := by simp
          have m4 : (r1.tied == r1.tied) = true := by simp
          have k4 : (r1.tied != r1.tied) = false := by simp
          have c0 := cell_of_row _ _ 0 _ _ _ hL
          have c1 := cell_of_row _ _ 1 _ _ _ hL
          have c2 := cell_of_row _ _ 2 _ _ _ hL
          have c3 := cell_of_row _ _ 3 _ _ _ hL
          have c4 := cell_of_row _ _ 4 _ _ _ hL
          simp at c0 c1 c2 c3 c4
          have d0 := cell_of_row _ _ 0 _ _ _ hS
          have d1 := cell_of_row _ _ 1 _ _ _ hS
          have d2 := cell_of_row _ _ 2 _ _ _ hS
          have d3 := cell_of_row _ _ 3 _ _ _ hS
          have d4 := cell_of_row _ _ 4 _ _ _ hS
          simp at d0 d1 d2 d3 d4
          go_wp2_with fail
          refine (CO.out u).mono ?_
          rintro e w6 ⟨rfl, b6⟩
          clear c0 c1 c2 c3 c4 d0 d1 d2 d3 d4
          have hL := blk_call hL b6
          have B6 := BU.trans (b6.mono BU.size)
          clear b6 BU hS
          have c0 := cell_of_row _ _ 0 _ _ _ hL
          have c1 := cell_of_row _ _ 1 _ _ _ hL
          have c2 := cell_of_row _ _ 2 _ _ _ hL
          have c3 := cell_of_row _ _ 3 _ _ _ hL
          have c4 := cell_of_row _ _ 4 _ _ _ hL
          simp at c0 c1 c2 c3 c4
          go_wp2_with fail
          refine (CI.out w6).mono ?_
          rintro e w7 ⟨rfl, b7⟩
          clear c0 c1 c2 c3 c4
          have hL := blk_call hL b7
          have B7 := B6.trans (b7.mono B6.size)
          clear b7 B6
          go_wp2
          go_roundw
          case rel => exact ⟨j + 1, r1, by omega, by go_num, hrf, hL, B7⟩
          case measure => simp [intOf]; omega
        | true =>
          clear hrs
          have c0 := cell_of_row _ _ 0 _ _ _ hL
          have c1 := cell_of_row _ _ 1 _ _ _ hL
          have c2 := cell_of_row _ _ 2 _ _ _ hL
          have c3 := cell_of_row _ _ 3 _ _ _ hL
          have c4 := cell_of_row _ _ 4 _ _ _ hL
          simp at c0 c1 c2 c3 c4
          go_wp2_with fail
          refine (CO.out u).mono ?_
          rintro e w6 ⟨rfl, b6⟩
          clear c0 c1 c2 c3 c4
          have hL := blk_call hL b6
          have B6 := BU.trans (b6.mono BU.size)
          clear b6 BU hS
          have c0 := cell_of_row _ _ 0 _ _ _ hL
          have c1 := cell_of_row _ _ 1 _ _ _ hL
          have c2 := cell_of_row _ _ 2 _ _ _ hL
          have c3 := cell_of_row _ _ 3 _ _ _ hL
          have c4 := cell_of_row _ _ 4 _ _ _ hL
          simp at c0 c1 c2 c3 c4
          go_wp2_with fail
          refine (CI.out w6).mono ?_
          rintro e w7 ⟨rfl, b7⟩
          clear c0 c1 c2 c3 c4
          have hL := blk_call hL b7
          have B7 := B6.trans (b7.mono B6.size)
          clear b7 B6
          go_wp2
          go_roundw
          case rel => exact ⟨j + 1, r1, by omega, by go_num, hrf, hL, B7⟩
          case measure => simp [intOf]; omega
      · skip
        have CF := Lib.hid (seatsFree_impl q (n : Int) w3 (fine_fits hq) (by unfold inI; omega))
        have hrf : (turnV q (n : Int) (n : Int) 0 (-(n : Int)) 0).1.fine := turnV_fine hq
        have hrs : (turnV q (n : Int) (n : Int) 0 (-(n : Int)) 0).2 = false → (turnV q (n : Int) (n : Int) 0 (-(n : Int)) 0).1 = q := turnV_same
        generalize turnV q (n : Int) (n : Int) 0 (-(n : Int)) 0 = r at *
        unfold leA at CF
        have c0 := cell_of_row _ _ 0 _ _ _ hB3
        have c1 := cell_of_row _ _ 1 _ _ _ hB3
        have c2 := cell_of_row _ _ 2 _ _ _ hB3
        have c3 := cell_of_row _ _ 3 _ _ _ hB3
        have c4 := cell_of_row _ _ 4 _ _ _ hB3
        simp at c0 c1 c2 c3 c4
        go_wp2_with fail
        refine CF.out.mono ?_
        rintro e w5 ⟨rfl, b5⟩
        clear c0 c1 c2 c3 c4 CF
        have hB5 := blk_call hB3 b5
        have hS := blk_call hS3 b5
        have B5 := B3.trans (b5.mono B3.size)
        clear hB3 hS3 B3 b5
        obtain ⟨r1, r2⟩ := r
        have hL := putLe_heap (q2 := r1) hB5
        have hS : (putLe w5 b r1).heap[wr.heap.size]? = some (.cells #[.int .i64 q.total, .int .i64 q.free, .int .i64 q.held, .int .i64 q.sold, .int .i64 q.tied] 25) := (putLe_block (by omega)).trans hS
        have BU : Below w.heap.size w (putLe w5 b r1) := putLe_below B5 hbw
        have c0 := cell_of_row _ _ 0 _ _ _ hB5
        have c1 := cell_of_row _ _ 1 _ _ _ hB5
        have c2 := cell_of_row _ _ 2 _ _ _ hB5
        have c3 := cell_of_row _ _ 3 _ _ _ hB5
        have c4 := cell_of_row _ _ 4 _ _ _ hB5
        simp at c0 c1 c2 c3 c4
        have z0 := frozen_of_row _ _ 0 _ _ hB5
        have z1 := frozen_of_row _ _ 1 _ _ hB5
        have z2 := frozen_of_row _ _ 2 _ _ hB5
        have z3 := frozen_of_row _ _ 3 _ _ hB5
        have z4 := frozen_of_row _ _ 4 _ _ hB5
        obtain ⟨u, hu⟩ : ∃ u, putLe w5 b r1 = u := ⟨_, rfl⟩
        rw [hu] at hL hS BU
        unfold putLe at hu
        clear hB5 B5
        go_upto_region 23 with fail
        try rw [hu]
        clear hu c0 c1 c2 c3 c4 z0 z1 z2 z3 z4
        have hrf : Le.fine r1 := hrf
        have CO : Hid (∀ w, Calls Try.prog 21 #[.agg #[.int .i64 r1.total, .int .i64 r1.free, .int .i64 r1.held, .int .i64 r1.sold, .int .i64 r1.tied]] w fun e w' => e = .returned (.bool true) ∧ Below w.heap.size w w') := fun w => by have h := ledgerOk_spec r1 w; rw [decide_eq_true hrf] at h; exact h
        have CI : Hid (∀ w, Calls Try.prog 22 #[.agg #[.int .i64 r1.total, .int .i64 r1.free, .int .i64 r1.held, .int .i64 r1.sold, .int .i64 r1.tied]] w fun e w' => e = .returned (.bool true) ∧ Below w.heap.size w w') := fun w => by have h := ledgerOk_impl r1 w (fine_fits hrf); rw [decide_eq_true hrf] at h; exact h
        obtain ⟨g1, g2, g3, g4, g5, g6⟩ := id hrf
        have hsum : (r1.free + r1.held + r1.sold != r1.total) = false := by simp [g5]
        have hrs : r2 = false → r1 = q := hrs
        clear g5
        cases r2 with
        | false =>
          obtain rfl := hrs rfl
          clear hrs hq
          have m0 : (r1.total == r1.total) = true := by simp
          have k0 : (r1.total != r1.total) = false := by simp
          have m1 : (r1.free == r1.free) = true := by simp
          have k1 : (r1.free != r1.free) = false := by simp
          have m2 : (r1.held == r1.held) = true := by simp
          have k2 : (r1.held != r1.held) = false := by simp
          have m3 : (r1.sold == r1.sold) = true := by simp
          have k3 : (r1.sold != r1.sold) = false := by simp
          have m4 : (r1.tied == r1.tied) = true := by simp
          have k4 : (r1.tied != r1.tied) = false := by simp
          have c0 := cell_of_row _ _ 0 _ _ _ hL
          have c1 := cell_of_row _ _ 1 _ _ _ hL
          have c2 := cell_of_row _ _ 2 _ _ _ hL
          have c3 := cell_of_row _ _ 3 _ _ _ hL
          have c4 := cell_of_row _ _ 4 _ _ _ hL
          simp at c0 c1 c2 c3 c4
          have d0 := cell_of_row _ _ 0 _ _ _ hS
          have d1 := cell_of_row _ _ 1 _ _ _ hS
          have d2 := cell_of_row _ _ 2 _ _ _ hS
          have d3 := cell_of_row _ _ 3 _ _ _ hS
          have d4 := cell_of_row _ _ 4 _ _ _ hS
          simp at d0 d1 d2 d3 d4
          go_wp2_with fail
          refine (CO.out u).mono ?_
          rintro e w6 ⟨rfl, b6⟩
          clear c0 c1 c2 c3 c4 d0 d1 d2 d3 d4
          have hL := blk_call hL b6
          have B6 := BU.trans (b6.mono BU.size)
          clear b6 BU hS
          have c0 := cell_of_row _ _ 0 _ _ _ hL
          have c1 := cell_of_row _ _ 1 _ _ _ hL
          have c2 := cell_of_row _ _ 2 _ _ _ hL
          have c3 := cell_of_row _ _ 3 _ _ _ hL
          have c4 := cell_of_row _ _ 4 _ _ _ hL
          simp at c0 c1 c2 c3 c4
          go_wp2_with fail
          refine (CI.out w6).mono ?_
          rintro e w7 ⟨rfl, b7⟩
          clear c0 c1 c2 c3 c4
          have hL := blk_call hL b7
          have B7 := B6.trans (b7.mono B6.size)
          clear b7 B6
          go_wp2
          go_roundw
          case rel => exact ⟨j + 1, r1, by omega, by go_num, hrf, hL, B7⟩
          case measure => simp [intOf]; omega
        | true =>
          clear hrs
          have c0 := cell_of_row _ _ 0 _ _ _ hL
          have c1 := cell_of_row _ _ 1 _ _ _ hL
          have c2 := cell_of_row _ _ 2 _ _ _ hL
          have c3 := cell_of_row _ _ 3 _ _ _ hL
          have c4 := cell_of_row _ _ 4 _ _ _ hL
          simp at c0 c1 c2 c3 c4
          go_wp2_with fail
          refine (CO.out u).mono ?_
          rintro e w6 ⟨rfl, b6⟩
          clear c0 c1 c2 c3 c4
          have hL := blk_call hL b6
          have B6 := BU.trans (b6.mono BU.size)
          clear b6 BU hS
          have c0 := cell_of_row _ _ 0 _ _ _ hL
          have c1 := cell_of_row _ _ 1 _ _ _ hL
          have c2 := cell_of_row _ _ 2 _ _ _ hL
          have c3 := cell_of_row _ _ 3 _ _ _ hL
          have c4 := cell_of_row _ _ 4 _ _ _ hL
          simp at c0 c1 c2 c3 c4
          go_wp2_with fail
          refine (CI.out w6).mono ?_
          rintro e w7 ⟨rfl, b7⟩
          clear c0 c1 c2 c3 c4
          have hL := blk_call hL b7
          have B7 := B6.trans (b7.mono B6.size)
          clear b7 B6
          go_wp2
          go_roundw
          case rel => exact ⟨j + 1, r1, by omega, by go_num, hrf, hL, B7⟩
          case measure => simp [intOf]; omega
      · skip
        have CF := Lib.hid (seatsHold_impl q (n : Int) w3 (fine_fits hq) (by unfold inI; omega))
        have hrf : (turnV q (n : Int) (-(n : Int)) (n : Int) 0 0).1.fine := turnV_fine hq
        have hrs : (turnV q (n : Int) (-(n : Int)) (n : Int) 0 0).2 = false → (turnV q (n : Int) (-(n : Int)) (n : Int) 0 0).1 = q := turnV_same
        generalize turnV q (n : Int) (-(n : Int)) (n : Int) 0 0 = r at *
        unfold leA at CF
        have c0 := cell_of_row _ _ 0 _ _ _ hB3
        have c1 := cell_of_row _ _ 1 _ _ _ hB3
        have c2 := cell_of_row _ _ 2 _ _ _ hB3
        have c3 := cell_of_row _ _ 3 _ _ _ hB3
        have c4 := cell_of_row _ _ 4 _ _ _ hB3
        simp at c0 c1 c2 c3 c4
        go_wp2_with fail
        refine CF.out.mono ?_
        rintro e w5 ⟨rfl, b5⟩
        clear c0 c1 c2 c3 c4 CF
        have hB5 := blk_call hB3 b5
        have hS := blk_call hS3 b5
        have B5 := B3.trans (b5.mono B3.size)
        clear hB3 hS3 B3 b5
        obtain ⟨r1, r2⟩ := r
        have hL := putLe_heap (q2 := r1) hB5
        have hS : (putLe w5 b r1).heap[wr.heap.size]? = some (.cells #[.int .i64 q.total, .int .i64 q.free, .int .i64 q.held, .int .i64 q.sold, .int .i64 q.tied] 25) := (putLe_block (by omega)).trans hS
        have BU : Below w.heap.size w (putLe w5 b r1) := putLe_below B5 hbw
        have c0 := cell_of_row _ _ 0 _ _ _ hB5
        have c1 := cell_of_row _ _ 1 _ _ _ hB5
        have c2 := cell_of_row _ _ 2 _ _ _ hB5
        have c3 := cell_of_row _ _ 3 _ _ _ hB5
        have c4 := cell_of_row _ _ 4 _ _ _ hB5
        simp at c0 c1 c2 c3 c4
        have z0 := frozen_of_row _ _ 0 _ _ hB5
        have z1 := frozen_of_row _ _ 1 _ _ hB5
        have z2 := frozen_of_row _ _ 2 _ _ hB5
        have z3 := frozen_of_row _ _ 3 _ _ hB5
        have z4 := frozen_of_row _ _ 4 _ _ hB5
        obtain ⟨u, hu⟩ : ∃ u, putLe w5 b r1 = u := ⟨_, rfl⟩
        rw [hu] at hL hS BU
        unfold putLe at hu
        clear hB5 B5
        go_upto_region 23 with fail
        try rw [hu]
        clear hu c0 c1 c2 c3 c4 z0 z1 z2 z3 z4
        have hrf : Le.fine r1 := hrf
        have CO : Hid (∀ w, Calls Try.prog 21 #[.agg #[.int .i64 r1.total, .int .i64 r1.free, .int .i64 r1.held, .int .i64 r1.sold, .int .i64 r1.tied]] w fun e w' => e = .returned (.bool true) ∧ Below w.heap.size w w') := fun w => by have h := ledgerOk_spec r1 w; rw [decide_eq_true hrf] at h; exact h
        have CI : Hid (∀ w, Calls Try.prog 22 #[.agg #[.int .i64 r1.total, .int .i64 r1.free, .int .i64 r1.held, .int .i64 r1.sold, .int .i64 r1.tied]] w fun e w' => e = .returned (.bool true) ∧ Below w.heap.size w w') := fun w => by have h := ledgerOk_impl r1 w (fine_fits hrf); rw [decide_eq_true hrf] at h; exact h
        obtain ⟨g1, g2, g3, g4, g5, g6⟩ := id hrf
        have hsum : (r1.free + r1.held + r1.sold != r1.total) = false := by simp [g5]
        have hrs : r2 = false → r1 = q := hrs
        clear g5
        cases r2 with
        | false =>
          obtain rfl := hrs rfl
          clear hrs hq
          have m0 : (r1.total == r1.total) = true := by simp
          have k0 : (r1.total != r1.total) = false := by simp
          have m1 : (r1.free == r1.free) = true := by simp
          have k1 : (r1.free != r1.free) = false := by simp
          have m2 : (r1.held == r1.held) = true := by simp
          have k2 : (r1.held != r1.held) = false := by simp
          have m3 : (r1.sold == r1.sold) = true := by simp
          have k3 : (r1.sold != r1.sold) = false := by simp
          have m4 : (r1.tied == r1.tied) = true := by simp
          have k4 : (r1.tied != r1.tied) = false := by simp
          have c0 := cell_of_row _ _ 0 _ _ _ hL
          have c1 := cell_of_row _ _ 1 _ _ _ hL
          have c2 := cell_of_row _ _ 2 _ _ _ hL
          have c3 := cell_of_row _ _ 3 _ _ _ hL
          have c4 := cell_of_row _ _ 4 _ _ _ hL
          simp at c0 c1 c2 c3 c4
          have d0 := cell_of_row _ _ 0 _ _ _ hS
          have d1 := cell_of_row _ _ 1 _ _ _ hS
          have d2 := cell_of_row _ _ 2 _ _ _ hS
          have d3 := cell_of_row _ _ 3 _ _ _ hS
          have d4 := cell_of_row _ _ 4 _ _ _ hS
          simp at d0 d1 d2 d3 d4
          go_wp2_with fail
          refine (CO.out u).mono ?_
          rintro e w6 ⟨rfl, b6⟩
          clear c0 c1 c2 c3 c4 d0 d1 d2 d3 d4
          have hL := blk_call hL b6
          have B6 := BU.trans (b6.mono BU.size)
          clear b6 BU hS
          have c0 := cell_of_row _ _ 0 _ _ _ hL
          have c1 := cell_of_row _ _ 1 _ _ _ hL
          have c2 := cell_of_row _ _ 2 _ _ _ hL
          have c3 := cell_of_row _ _ 3 _ _ _ hL
          have c4 := cell_of_row _ _ 4 _ _ _ hL
          simp at c0 c1 c2 c3 c4
          go_wp2_with fail
          refine (CI.out w6).mono ?_
          rintro e w7 ⟨rfl, b7⟩
          clear c0 c1 c2 c3 c4
          have hL := blk_call hL b7
          have B7 := B6.trans (b7.mono B6.size)
          clear b7 B6
          go_wp2
          go_roundw
          case rel => exact ⟨j + 1, r1, by omega, by go_num, hrf, hL, B7⟩
          case measure => simp [intOf]; omega
        | true =>
          clear hrs
          have c0 := cell_of_row _ _ 0 _ _ _ hL
          have c1 := cell_of_row _ _ 1 _ _ _ hL
          have c2 := cell_of_row _ _ 2 _ _ _ hL
          have c3 := cell_of_row _ _ 3 _ _ _ hL
          have c4 := cell_of_row _ _ 4 _ _ _ hL
          simp at c0 c1 c2 c3 c4
          go_wp2_with fail
          refine (CO.out u).mono ?_
          rintro e w6 ⟨rfl, b6⟩
          clear c0 c1 c2 c3 c4
          have hL := blk_call hL b6
          have B6 := BU.trans (b6.mono BU.size)
          clear b6 BU hS
          have c0 := cell_of_row _ _ 0 _ _ _ hL
          have c1 := cell_of_row _ _ 1 _ _ _ hL
          have c2 := cell_of_row _ _ 2 _ _ _ hL
          have c3 := cell_of_row _ _ 3 _ _ _ hL
          have c4 := cell_of_row _ _ 4 _ _ _ hL
          simp at c0 c1 c2 c3 c4
          go_wp2_with fail
          refine (CI.out w6).mono ?_
          rintro e w7 ⟨rfl, b7⟩
          clear c0 c1 c2 c3 c4
          have hL := blk_call hL b7
          have B7 := B6.trans (b7.mono B6.size)
          clear b7 B6
          go_wp2
          go_roundw
          case rel => exact ⟨j + 1, r1, by omega, by go_num, hrf, hL, B7⟩
          case measure => simp [intOf]; omega
      · skip
        have CF := Lib.hid (seatsDrop_impl q (n : Int) w3 (fine_fits hq) (by unfold inI; omega))
        have hrf : (turnV q (n : Int) (n : Int) (-(n : Int)) 0 0).1.fine := turnV_fine hq
        have hrs : (turnV q (n : Int) (n : Int) (-(n : Int)) 0 0).2 = false → (turnV q (n : Int) (n : Int) (-(n : Int)) 0 0).1 = q := turnV_same
        generalize turnV q (n : Int) (n : Int) (-(n : Int)) 0 0 = r at *
        unfold leA at CF
        have c0 := cell_of_row _ _ 0 _ _ _ hB3
        have c1 := cell_of_row _ _ 1 _ _ _ hB3
        have c2 := cell_of_row _ _ 2 _ _ _ hB3
        have c3 := cell_of_row _ _ 3 _ _ _ hB3
        have c4 := cell_of_row _ _ 4 _ _ _ hB3
        simp at c0 c1 c2 c3 c4
        go_wp2_with fail
        refine CF.out.mono ?_
        rintro e w5 ⟨rfl, b5⟩
        clear c0 c1 c2 c3 c4 CF
        have hB5 := blk_call hB3 b5
        have hS := blk_call hS3 b5
        have B5 := B3.trans (b5.mono B3.size)
        clear hB3 hS3 B3 b5
        obtain ⟨r1, r2⟩ := r
        have hL := putLe_heap (q2 := r1) hB5
        have hS : (putLe w5 b r1).heap[wr.heap.size]? = some (.cells #[.int .i64 q.total, .int .i64 q.free, .int .i64 q.held, .int .i64 q.sold, .int .i64 q.tied] 25) := (putLe_block (by omega)).trans hS
        have BU : Below w.heap.size w (putLe w5 b r1) := putLe_below B5 hbw
        have c0 := cell_of_row _ _ 0 _ _ _ hB5
        have c1 := cell_of_row _ _ 1 _ _ _ hB5
        have c2 := cell_of_row _ _ 2 _ _ _ hB5
        have c3 := cell_of_row _ _ 3 _ _ _ hB5
        have c4 := cell_of_row _ _ 4 _ _ _ hB5
        simp at c0 c1 c2 c3 c4
        have z0 := frozen_of_row _ _ 0 _ _ hB5
        have z1 := frozen_of_row _ _ 1 _ _ hB5
        have z2 := frozen_of_row _ _ 2 _ _ hB5
        have z3 := frozen_of_row _ _ 3 _ _ hB5
        have z4 := frozen_of_row _ _ 4 _ _ hB5
        obtain ⟨u, hu⟩ : ∃ u, putLe w5 b r1 = u := ⟨_, rfl⟩
        rw [hu] at hL hS BU
        unfold putLe at hu
        clear hB5 B5
        go_upto_region 23 with fail
        try rw [hu]
        clear hu c0 c1 c2 c3 c4 z0 z1 z2 z3 z4
        have hrf : Le.fine r1 := hrf
        have CO : Hid (∀ w, Calls Try.prog 21 #[.agg #[.int .i64 r1.total, .int .i64 r1.free, .int .i64 r1.held, .int .i64 r1.sold, .int .i64 r1.tied]] w fun e w' => e = .returned (.bool true) ∧ Below w.heap.size w w') := fun w => by have h := ledgerOk_spec r1 w; rw [decide_eq_true hrf] at h; exact h
        have CI : Hid (∀ w, Calls Try.prog 22 #[.agg #[.int .i64 r1.total, .int .i64 r1.free, .int .i64 r1.held, .int .i64 r1.sold, .int .i64 r1.tied]] w fun e w' => e = .returned (.bool true) ∧ Below w.heap.size w w') := fun w => by have h := ledgerOk_impl r1 w (fine_fits hrf); rw [decide_eq_true hrf] at h; exact h
        obtain ⟨g1, g2, g3, g4, g5, g6⟩ := id hrf
        have hsum : (r1.free + r1.held + r1.sold != r1.total) = false := by simp [g5]
        have hrs : r2 = false → r1 = q := hrs
        clear g5
        cases r2 with
        | false =>
          obtain rfl := hrs rfl
          clear hrs hq
          have m0 : (r1.total == r1.total) = true := by simp
          have k0 : (r1.total != r1.total) = false := by simp
          have m1 : (r1.free == r1.free) = true := by simp
          have k1 : (r1.free != r1.free) = false := by simp
          have m2 : (r1.held == r1.held) = true := by simp
          have k2 : (r1.held != r1.held) = false := by simp
          have m3 : (r1.sold == r1.sold) = true := by simp
          have k3 : (r1.sold != r1.sold) = false := by simp
          have m4 : (r1.tied == r1.tied) = true := by simp
          have k4 : (r1.tied != r1.tied) = false := by simp
          have c0 := cell_of_row _ _ 0 _ _ _ hL
          have c1 := cell_of_row _ _ 1 _ _ _ hL
          have c2 := cell_of_row _ _ 2 _ _ _ hL
          have c3 := cell_of_row _ _ 3 _ _ _ hL
          have c4 := cell_of_row _ _ 4 _ _ _ hL
          simp at c0 c1 c2 c3 c4
          have d0 := cell_of_row _ _ 0 _ _ _ hS
          have d1 := cell_of_row _ _ 1 _ _ _ hS
          have d2 := cell_of_row _ _ 2 _ _ _ hS
          have d3 := cell_of_row _ _ 3 _ _ _ hS
          have d4 := cell_of_row _ _ 4 _ _ _ hS
          simp at d0 d1 d2 d3 d4
          go_wp2_with fail
          refine (CO.out u).mono ?_
          rintro e w6 ⟨rfl, b6⟩
          clear c0 c1 c2 c3 c4 d0 d1 d2 d3 d4
          have hL := blk_call hL b6
          have B6 := BU.trans (b6.mono BU.size)
          clear b6 BU hS
          have c0 := cell_of_row _ _ 0 _ _ _ hL
          have c1 := cell_of_row _ _ 1 _ _ _ hL
          have c2 := cell_of_row _ _ 2 _ _ _ hL
          have c3 := cell_of_row _ _ 3 _ _ _ hL
          have c4 := cell_of_row _ _ 4 _ _ _ hL
          simp at c0 c1 c2 c3 c4
          go_wp2_with fail
          refine (CI.out w6).mono ?_
          rintro e w7 ⟨rfl, b7⟩
          clear c0 c1 c2 c3 c4
          have hL := blk_call hL b7
          have B7 := B6.trans (b7.mono B6.size)
          clear b7 B6
          go_wp2
          go_roundw
          case rel => exact ⟨j + 1, r1, by omega, by go_num, hrf, hL, B7⟩
          case measure => simp [intOf]; omega
        | true =>
          clear hrs
          have c0 := cell_of_row _ _ 0 _ _ _ hL
          have c1 := cell_of_row _ _ 1 _ _ _ hL
          have c2 := cell_of_row _ _ 2 _ _ _ hL
          have c3 := cell_of_row _ _ 3 _ _ _ hL
          have c4 := cell_of_row _ _ 4 _ _ _ hL
          simp at c0 c1 c2 c3 c4
          go_wp2_with fail
          refine (CO.out u).mono ?_
          rintro e w6 ⟨rfl, b6⟩
          clear c0 c1 c2 c3 c4
          have hL := blk_call hL b6
          have B6 := BU.trans (b6.mono BU.size)
          clear b6 BU hS
          have c0 := cell_of_row _ _ 0 _ _ _ hL
          have c1 := cell_of_row _ _ 1 _ _ _ hL
          have c2 := cell_of_row _ _ 2 _ _ _ hL
          have c3 := cell_of_row _ _ 3 _ _ _ hL
          have c4 := cell_of_row _ _ 4 _ _ _ hL
          simp at c0 c1 c2 c3 c4
          go_wp2_with fail
          refine (CI.out w6).mono ?_
          rintro e w7 ⟨rfl, b7⟩
          clear c0 c1 c2 c3 c4
          have hL := blk_call hL b7
          have B7 := B6.trans (b7.mono B6.size)
          clear b7 B6
          go_wp2
          go_roundw
          case rel => exact ⟨j + 1, r1, by omega, by go_num, hrf, hL, B7⟩
          case measure => simp [intOf]; omega
      · skip
        have CF := Lib.hid (seatsSell_impl q (n : Int) w3 (fine_fits hq) (by unfold inI; omega))
        have hrf : (turnV q (n : Int) 0 (-(n : Int)) (n : Int) 0).1.fine := turnV_fine hq
        have hrs : (turnV q (n : Int) 0 (-(n : Int)) (n : Int) 0).2 = false → (turnV q (n : Int) 0 (-(n : Int)) (n : Int) 0).1 = q := turnV_same
        generalize turnV q (n : Int) 0 (-(n : Int)) (n : Int) 0 = r at *
        unfold leA at CF
        have c0 := cell_of_row _ _ 0 _ _ _ hB3
        have c1 := cell_of_row _ _ 1 _ _ _ hB3
        have c2 := cell_of_row _ _ 2 _ _ _ hB3
        have c3 := cell_of_row _ _ 3 _ _ _ hB3
        have c4 := cell_of_row _ _ 4 _ _ _ hB3
        simp at c0 c1 c2 c3 c4
        go_wp2_with fail
        refine CF.out.mono ?_
        rintro e w5 ⟨rfl, b5⟩
        clear c0 c1 c2 c3 c4 CF
        have hB5 := blk_call hB3 b5
        have hS := blk_call hS3 b5
        have B5 := B3.trans (b5.mono B3.size)
        clear hB3 hS3 B3 b5
        obtain ⟨r1, r2⟩ := r
        have hL := putLe_heap (q2 := r1) hB5
        have hS : (putLe w5 b r1).heap[wr.heap.size]? = some (.cells #[.int .i64 q.total, .int .i64 q.free, .int .i64 q.held, .int .i64 q.sold, .int .i64 q.tied] 25) := (putLe_block (by omega)).trans hS
        have BU : Below w.heap.size w (putLe w5 b r1) := putLe_below B5 hbw
        have c0 := cell_of_row _ _ 0 _ _ _ hB5
        have c1 := cell_of_row _ _ 1 _ _ _ hB5
        have c2 := cell_of_row _ _ 2 _ _ _ hB5
        have c3 := cell_of_row _ _ 3 _ _ _ hB5
        have c4 := cell_of_row _ _ 4 _ _ _ hB5
        simp at c0 c1 c2 c3 c4
        have z0 := frozen_of_row _ _ 0 _ _ hB5
        have z1 := frozen_of_row _ _ 1 _ _ hB5
        have z2 := frozen_of_row _ _ 2 _ _ hB5
        have z3 := frozen_of_row _ _ 3 _ _ hB5
        have z4 := frozen_of_row _ _ 4 _ _ hB5
        obtain ⟨u, hu⟩ : ∃ u, putLe w5 b r1 = u := ⟨_, rfl⟩
        rw [hu] at hL hS BU
        unfold putLe at hu
        clear hB5 B5
        go_upto_region 23 with fail
        try rw [hu]
        clear hu c0 c1 c2 c3 c4 z0 z1 z2 z3 z4
        have hrf : Le.fine r1 := hrf
        have CO : Hid (∀ w, Calls Try.prog 21 #[.agg #[.int .i64 r1.total, .int .i64 r1.free, .int .i64 r1.held, .int .i64 r1.sold, .int .i64 r1.tied]] w fun e w' => e = .returned (.bool true) ∧ Below w.heap.size w w') := fun w => by have h := ledgerOk_spec r1 w; rw [decide_eq_true hrf] at h; exact h
        have CI : Hid (∀ w, Calls Try.prog 22 #[.agg #[.int .i64 r1.total, .int .i64 r1.free, .int .i64 r1.held, .int .i64 r1.sold, .int .i64 r1.tied]] w fun e w' => e = .returned (.bool true) ∧ Below w.heap.size w w') := fun w => by have h := ledgerOk_impl r1 w (fine_fits hrf); rw [decide_eq_true hrf] at h; exact h
        obtain ⟨g1, g2, g3, g4, g5, g6⟩ := id hrf
        have hsum : (r1.free + r1.held + r1.sold != r1.total) = false := by simp [g5]
        have hrs : r2 = false → r1 = q := hrs
        clear g5
        cases r2 with
        | false =>
          obtain rfl := hrs rfl
          clear hrs hq
          have m0 : (r1.total == r1.total) = true := by simp
          have k0 : (r1.total != r1.total) = false := by simp
          have m1 : (r1.free == r1.free) = true := by simp
          have k1 : (r1.free != r1.free) = false := by simp
          have m2 : (r1.held == r1.held) = true := by simp
          have k2 : (r1.held != r1.held) = false := by simp
          have m3 : (r1.sold == r1.sold) = true := by simp
          have k3 : (r1.sold != r1.sold) = false := by simp
          have m4 : (r1.tied == r1.tied) = true := by simp
          have k4 : (r1.tied != r1.tied) = false := by simp
          have c0 := cell_of_row _ _ 0 _ _ _ hL
          have c1 := cell_of_row _ _ 1 _ _ _ hL
          have c2 := cell_of_row _ _ 2 _ _ _ hL
          have c3 := cell_of_row _ _ 3 _ _ _ hL
          have c4 := cell_of_row _ _ 4 _ _ _ hL
          simp at c0 c1 c2 c3 c4
          have d0 := cell_of_row _ _ 0 _ _ _ hS
          have d1 := cell_of_row _ _ 1 _ _ _ hS
          have d2 := cell_of_row _ _ 2 _ _ _ hS
          have d3 := cell_of_row _ _ 3 _ _ _ hS
          have d4 := cell_of_row _ _ 4 _ _ _ hS
          simp at d0 d1 d2 d3 d4
          go_wp2_with fail
          refine (CO.out u).mono ?_
          rintro e w6 ⟨rfl, b6⟩
          clear c0 c1 c2 c3 c4 d0 d1 d2 d3 d4
          have hL := blk_call hL b6
          have B6 := BU.trans (b6.mono BU.size)
          clear b6 BU hS
          have c0 := cell_of_row _ _ 0 _ _ _ hL
          have c1 := cell_of_row _ _ 1 _ _ _ hL
          have c2 := cell_of_row _ _ 2 _ _ _ hL
          have c3 := cell_of_row _ _ 3 _ _ _ hL
          have c4 := cell_of_row _ _ 4 _ _ _ hL
          simp at c0 c1 c2 c3 c4
          go_wp2_with fail
          refine (CI.out w6).mono ?_
          rintro e w7 ⟨rfl, b7⟩
          clear c0 c1 c2 c3 c4
          have hL := blk_call hL b7
          have B7 := B6.trans (b7.mono B6.size)
          clear b7 B6
          go_wp2
          go_roundw
          case rel => exact ⟨j + 1, r1, by omega, by go_num, hrf, hL, B7⟩
          case measure => simp [intOf]; omega
        | true =>
          clear hrs
          have c0 := cell_of_row _ _ 0 _ _ _ hL
          have c1 := cell_of_row _ _ 1 _ _ _ hL
          have c2 := cell_of_row _ _ 2 _ _ _ hL
          have c3 := cell_of_row _ _ 3 _ _ _ hL
          have c4 := cell_of_row _ _ 4 _ _ _ hL
          simp at c0 c1 c2 c3 c4
          go_wp2_with fail
          refine (CO.out u).mono ?_
          rintro e w6 ⟨rfl, b6⟩
          clear c0 c1 c2 c3 c4
          have hL := blk_call hL b6
          have B6 := BU.trans (b6.mono BU.size)
          clear b6 BU hS
          have c0 := cell_of_row _ _ 0 _ _ _ hL
          have c1 := cell_of_row _ _ 1 _ _ _ hL
          have c2 := cell_of_row _ _ 2 _ _ _ hL
          have c3 := cell_of_row _ _ 3 _ _ _ hL
          have c4 := cell_of_row _ _ 4 _ _ _ hL
          simp at c0 c1 c2 c3 c4
          go_wp2_with fail
          refine (CI.out w6).mono ?_
          rintro e w7 ⟨rfl, b7⟩
          clear c0 c1 c2 c3 c4
          have hL := blk_call hL b7
          have B7 := B6.trans (b7.mono B6.size)
          clear b7 B6
          go_wp2
          go_roundw
          case rel => exact ⟨j + 1, r1, by omega, by go_num, hrf, hL, B7⟩
          case measure => simp [intOf]; omega
      · skip
        have CF := Lib.hid (seatsTie_impl q (n : Int) w3 (fine_fits hq) (by unfold inI; omega))
        have hrf : (turnV q (n : Int) 0 0 0 (n : Int)).1.fine := turnV_fine hq
        have hrs : (turnV q (n : Int) 0 0 0 (n : Int)).2 = false → (turnV q (n : Int) 0 0 0 (n : Int)).1 = q := turnV_same
        generalize turnV q (n : Int) 0 0 0 (n : Int) = r at *
        unfold leA at CF
        have c0 := cell_of_row _ _ 0 _ _ _ hB3
        have c1 := cell_of_row _ _ 1 _ _ _ hB3
        have c2 := cell_of_row _ _ 2 _ _ _ hB3
        have c3 := cell_of_row _ _ 3 _ _ _ hB3
        have c4 := cell_of_row _ _ 4 _ _ _ hB3
        simp at c0 c1 c2 c3 c4
        go_wp2_with fail
        refine CF.out.mono ?_
        rintro e w5 ⟨rfl, b5⟩
        clear c0 c1 c2 c3 c4 CF
        have hB5 := blk_call hB3 b5
        have hS := blk_call hS3 b5
        have B5 := B3.trans (b5.mono B3.size)
        clear hB3 hS3 B3 b5
        obtain ⟨r1, r2⟩ := r
        have hL := putLe_heap (q2 := r1) hB5
        have hS : (putLe w5 b r1).heap[wr.heap.size]? = some (.cells #[.int .i64 q.total, .int .i64 q.free, .int .i64 q.held, .int .i64 q.sold, .int .i64 q.tied] 25) := (putLe_block (by omega)).trans hS
        have BU : Below w.heap.size w (putLe w5 b r1) := putLe_below B5 hbw
        have c0 := cell_of_row _ _ 0 _ _ _ hB5
        have c1 := cell_of_row _ _ 1 _ _ _ hB5
        have c2 := cell_of_row _ _ 2 _ _ _ hB5
        have c3 := cell_of_row _ _ 3 _ _ _ hB5
        have c4 := cell_of_row _ _ 4 _ _ _ hB5
        simp at c0 c1 c2 c3 c4
        have z0 := frozen_of_row _ _ 0 _ _ hB5
        have z1 := frozen_of_row _ _ 1 _ _ hB5
        have z2 := frozen_of_row _ _ 2 _ _ hB5
        have z3 := frozen_of_row _ _ 3 _ _ hB5
        have z4 := frozen_of_row _ _ 4 _ _ hB5
        obtain ⟨u, hu⟩ : ∃ u, putLe w5 b r1 = u := ⟨_, rfl⟩
        rw [hu] at hL hS BU
        unfold putLe at hu
        clear hB5 B5
        go_upto_region 23 with fail
        try rw [hu]
        clear hu c0 c1 c2 c3 c4 z0 z1 z2 z3 z4
        have hrf : Le.fine r1 := hrf
        have CO : Hid (∀ w, Calls Try.prog 21 #[.agg #[.int .i64 r1.total, .int .i64 r1.free, .int .i64 r1.held, .int .i64 r1.sold, .int .i64 r1.tied]] w fun e w' => e = .returned (.bool true) ∧ Below w.heap.size w w') := fun w => by have h := ledgerOk_spec r1 w; rw [decide_eq_true hrf] at h; exact h
        have CI : Hid (∀ w, Calls Try.prog 22 #[.agg #[.int .i64 r1.total, .int .i64 r1.free, .int .i64 r1.held, .int .i64 r1.sold, .int .i64 r1.tied]] w fun e w' => e = .returned (.bool true) ∧ Below w.heap.size w w') := fun w => by have h := ledgerOk_impl r1 w (fine_fits hrf); rw [decide_eq_true hrf] at h; exact h
        obtain ⟨g1, g2, g3, g4, g5, g6⟩ := id hrf
        have hsum : (r1.free + r1.held + r1.sold != r1.total) = false := by simp [g5]
        have hrs : r2 = false → r1 = q := hrs
        clear g5
        cases r2 with
        | false =>
          obtain rfl := hrs rfl
          clear hrs hq
          have m0 : (r1.total == r1.total) = true := by simp
          have k0 : (r1.total != r1.total) = false := by simp
          have m1 : (r1.free == r1.free) = true := by simp
          have k1 : (r1.free != r1.free) = false := by simp
          have m2 : (r1.held == r1.held) = true := by simp
          have k2 : (r1.held != r1.held) = false := by simp
          have m3 : (r1.sold == r1.sold) = true := by simp
          have k3 : (r1.sold != r1.sold) = false := by simp
          have m4 : (r1.tied == r1.tied) = true := by simp
          have k4 : (r1.tied != r1.tied) = false := by simp
          have c0 := cell_of_row _ _ 0 _ _ _ hL
          have c1 := cell_of_row _ _ 1 _ _ _ hL
          have c2 := cell_of_row _ _ 2 _ _ _ hL
          have c3 := cell_of_row _ _ 3 _ _ _ hL
          have c4 := cell_of_row _ _ 4 _ _ _ hL
          simp at c0 c1 c2 c3 c4
          have d0 := cell_of_row _ _ 0 _ _ _ hS
          have d1 := cell_of_row _ _ 1 _ _ _ hS
          have d2 := cell_of_row _ _ 2 _ _ _ hS
          have d3 := cell_of_row _ _ 3 _ _ _ hS
          have d4 := cell_of_row _ _ 4 _ _ _ hS
          simp at d0 d1 d2 d3 d4
          go_wp2_with fail
          refine (CO.out u).mono ?_
          rintro e w6 ⟨rfl, b6⟩
          clear c0 c1 c2 c3 c4 d0 d1 d2 d3 d4
          have hL := blk_call hL b6
          have B6 := BU.trans (b6.mono BU.size)
          clear b6 BU hS
          have c0 := cell_of_row _ _ 0 _ _ _ hL
          have c1 := cell_of_row _ _ 1 _ _ _ hL
          have c2 := cell_of_row _ _ 2 _ _ _ hL
          have c3 := cell_of_row _ _ 3 _ _ _ hL
          have c4 := cell_of_row _ _ 4 _ _ _ hL
          simp at c0 c1 c2 c3 c4
          go_wp2_with fail
          refine (CI.out w6).mono ?_
          rintro e w7 ⟨rfl, b7⟩
          clear c0 c1 c2 c3 c4
          have hL := blk_call hL b7
          have B7 := B6.trans (b7.mono B6.size)
          clear b7 B6
          go_wp2
          go_roundw
          case rel => exact ⟨j + 1, r1, by omega, by go_num, hrf, hL, B7⟩
          case measure => simp [intOf]; omega
        | true =>
          clear hrs
          have c0 := cell_of_row _ _ 0 _ _ _ hL
          have c1 := cell_of_row _ _ 1 _ _ _ hL
          have c2 := cell_of_row _ _ 2 _ _ _ hL
          have c3 := cell_of_row _ _ 3 _ _ _ hL
          have c4 := cell_of_row _ _ 4 _ _ _ hL
          simp at c0 c1 c2 c3 c4
          go_wp2_with fail
          refine (CO.out u).mono ?_
          rintro e w6 ⟨rfl, b6⟩
          clear c0 c1 c2 c3 c4
          have hL := blk_call hL b6
          have B6 := BU.trans (b6.mono BU.size)
          clear b6 BU hS
          have c0 := cell_of_row _ _ 0 _ _ _ hL
          have c1 := cell_of_row _ _ 1 _ _ _ hL
          have c2 := cell_of_row _ _ 2 _ _ _ hL
          have c3 := cell_of_row _ _ 3 _ _ _ hL
          have c4 := cell_of_row _ _ 4 _ _ _ hL
          simp at c0 c1 c2 c3 c4
          go_wp2_with fail
          refine (CI.out w6).mono ?_
          rintro e w7 ⟨rfl, b7⟩
          clear c0 c1 c2 c3 c4
          have hL := blk_call hL b7
          have B7 := B6.trans (b7.mono B6.size)
          clear b7 B6
          go_wp2
          go_roundw
          case rel => exact ⟨j + 1, r1, by omega, by go_num, hrf, hL, B7⟩
          case measure => simp [intOf]; omega
    · go_wp2
      go_ret
      exact ⟨rfl, hbr⟩
end Go.Proofs.Ytjnmdnpknlakhaa
