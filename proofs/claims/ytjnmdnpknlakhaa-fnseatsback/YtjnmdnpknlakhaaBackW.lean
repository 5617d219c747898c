/- The walk of the law FnSeatsBack. -/
import Derived.Test.YtjnmdnpknlakhaaRows
import Derived.Test.YtjnmdnpknlakhaaSeatsW
namespace Go.Proofs.Ytjnmdnpknlakhaa
open Go.RowKit
set_option linter.unusedSimpArgs false
set_option linter.unusedVariables false
theorem turnV_true {l : Le} {n F H S T : Int} (h : (turnV l n F H S T).2 = true) : (l.fine ∧ (0 ≤ n ∧ n ≤ 60) ∧ Le.fine (⟨l.total, l.free + F, l.held + H, l.sold + S, l.tied + T⟩ : Le)) ∧ (turnV l n F H S T).1 = (⟨l.total, l.free + F, l.held + H, l.sold + S, l.tied + T⟩ : Le) := by
  unfold turnV at h ⊢
  split at h
  · rename_i h2; rw [if_pos h2]; exact ⟨h2, rfl⟩
  · cases h
theorem le_eq {a b : Le} (h0 : a.total = b.total) (h1 : a.free = b.free) (h2 : a.held = b.held) (h3 : a.sold = b.sold) (h4 : a.tied = b.tied) : a = b := by cases a; cases b; simp_all
theorem back_of {q : Le} {n F H S T F' H' S' T' : Int} {o : Le} (h : (turnV q n F H S T).2 = true) (ho : o = ⟨q.total, q.free + F + F', q.held + H + H', q.sold + S + S', q.tied + T + T'⟩) (hf : q.fine → (0 ≤ n ∧ n ≤ 60) → Le.fine (⟨q.total, q.free + F, q.held + H, q.sold + S, q.tied + T⟩ : Le) → o.fine) : turnV (turnV q n F H S T).1 n F' H' S' T' = (o, true) := by
  obtain ⟨⟨h1, h2, h3⟩, e⟩ := turnV_true h
  rw [e]
  have := hf h1 h2 h3
  rw [ho] at this ⊢
  exact if_pos ⟨h3, h2, this⟩
set_option maxRecDepth 100000 in
set_option maxHeartbeats 6400000 in
theorem FnSeatsBack_walk (A : Option Addr) (l : List Nat) (cap : Nat) (w : World) (hA : Bts w w.heap.size A l) (hb : AllB l) (hm : l.length ≤ maxLen) :
    Calls Try.prog 4 #[.slice A l.length cap] w fun e w' => e = .returned (.bool true) ∧ Below w.heap.size w w' := by
  by_cases hbig : 1048576 < l.length
  · go_enter Try.func4, Try.ntmps4
    go_wp2_with fail
    refine (big_yes _ _ _ _ hbig).mono ?_
    rintro e w' ⟨rfl, rfl⟩
    go_wp2
    go_ret
    exact ⟨rfl, Below.refl _ _⟩
  have hl : l.length ≤ 1048576 := by omega
  clear hbig hm
  have CD0 := Lib.hid (drawSeatsHold_any A l cap w (by omega) hA hb)
  go_enter Try.func4, Try.ntmps4
  go_wp2_with fail
  refine (big_no _ _ _ _ hl).mono ?_
  rintro e w' ⟨rfl, rfl⟩
  go_wp2_with fail
  refine CD0.out.mono ?_
  rintro e w2 ⟨q, n, hqf, hni, rfl, b2⟩
  clear CD0
  have CH := Lib.hid (fun w => seatsHold_impl q n w hqf hni)
  have CS := Lib.hid (fun w => seatsSell_impl q n w hqf hni)
  have CT := Lib.hid (fun w => seatsTie_impl q n w hqf hni)
  have SH := Lib.hid (fun w => seatsHold_spec q n w)
  have SS := Lib.hid (fun w => seatsSell_spec q n w)
  have ST := Lib.hid (fun w => seatsTie_spec q n w)
  have CD : Hid ((turnV q n (-n) n 0 0).2 = true → ∀ w, Calls Try.prog 18 #[leA (turnV q n (-n) n 0 0).1, .int .i64 n] w fun e w' => e = .returned (.tuple #[leA q, .bool true]) ∧ Below w.heap.size w w') := fun h w => by
    have hc := seatsDrop_impl (turnV q n (-n) n 0 0).1 n w (fine_fits (by rw [(turnV_true h).2]; exact (turnV_true h).1.2.2)) hni
    rw [back_of (o := q) h (le_eq rfl (by simp; omega) (by simp; omega) (by simp) (by simp)) (fun h1 _ _ => h1)] at hc
    exact hc
  have CU : Hid ((turnV q n 0 0 0 n).2 = true → ∀ w, Calls Try.prog 27 #[leA (turnV q n 0 0 0 n).1, .int .i64 n] w fun e w' => e = .returned (.tuple #[leA q, .bool true]) ∧ Below w.heap.size w w') := fun h w => by
    have hc := seatsUntie_impl (turnV q n 0 0 0 n).1 n w (fine_fits (by rw [(turnV_true h).2]; exact (turnV_true h).1.2.2)) hni
    rw [back_of (o := q) h (le_eq rfl (by simp) (by simp) (by simp) (by simp; omega)) (fun h1 _ _ => h1)] at hc
    exact hc
  have CF : Hid ((turnV q n 0 (-n) n 0).2 = true → ∀ w, Calls Try.prog 16 #[leA (turnV q n 0 (-n) n 0).1, .int .i64 n] w fun e w' => e = .returned (.tuple #[leA (⟨q.total, q.free + n, q.held - n, q.sold, q.tied⟩ : Le), .bool true]) ∧ Below w.heap.size w w') := fun h w => by
    have hc := seatsFree_impl (turnV q n 0 (-n) n 0).1 n w (fine_fits (by rw [(turnV_true h).2]; exact (turnV_true h).1.2.2)) hni
    rw [back_of (o := (⟨q.total, q.free + n, q.held - n, q.sold, q.tied⟩ : Le)) h (le_eq rfl (by simp) (by simp; omega) (by simp; omega) (by simp)) (fun h1 h2 h3 => by unfold Le.fine at *; simp at *; omega)] at hc
    exact hc
  have hsb : (turnV q n 0 (-n) n 0).2 = true → (0 ≤ q.free ∧ q.free ≤ 60) ∧ (0 ≤ q.held ∧ q.held ≤ 60) ∧ (0 ≤ n ∧ n ≤ 60) := fun h => by
    obtain ⟨⟨h1, h2, _⟩, _⟩ := turnV_true h
    unfold Le.fine at h1
    omega
  have hbn : (turnV q n 0 (-n) n 0).2 = false → (turnV q n 0 (-n) n 0).1 = q := turnV_same
  generalize turnV q n (-n) n 0 0 = ra at *
  generalize turnV q n 0 (-n) n 0 = rb at *
  generalize turnV q n 0 0 0 n = rt at *
  obtain ⟨ra1, ra2⟩ := ra
  obtain ⟨rb1, rb2⟩ := rb
  obtain ⟨rt1, rt2⟩ := rt
  have nA : (ra2 != ra2) = false := by simp
  have nS : (rb2 != rb2) = false := by simp
  have nT : (rt2 != rt2) = false := by simp
  have m0 : (q.total == q.total) = true := by simp
  have k0 : (q.total != q.total) = false := by simp
  have m1 : (q.free == q.free) = true := by simp
  have k1 : (q.free != q.free) = false := by simp
  have m2 : (q.held == q.held) = true := by simp
  have k2 : (q.held != q.held) = false := by simp
  have m3 : (q.sold == q.sold) = true := by simp
  have k3 : (q.sold != q.sold) = false := by simp
  have m4 : (q.tied == q.tied) = true := by simp
  have k4 : (q.tied != q.tied) = false := by simp
  have CD : Hid (ra2 = true → ∀ w, Calls Try.prog 18 #[leA ra1, .int .i64 n] w fun e w' => e = .returned (.tuple #[leA q, .bool true]) ∧ Below w.heap.size w w') := CD
  have CU : Hid (rt2 = true → ∀ w, Calls Try.prog 27 #[leA rt1, .int .i64 n] w fun e w' => e = .returned (.tuple #[leA q, .bool true]) ∧ Below w.heap.size w w') := CU
  have CF : Hid (rb2 = true → ∀ w, Calls Try.prog 16 #[leA rb1, .int .i64 n] w fun e w' => e = .returned (.tuple #[leA (⟨q.total, q.free + n, q.held - n, q.sold, q.tied⟩ : Le), .bool true]) ∧ Below w.heap.size w w') := CF
  have hsb : rb2 = true → (0 ≤ q.free ∧ q.free ≤ 60) ∧ (0 ≤ q.held ∧ q.held ≤ 60) ∧ (0 ≤ n ∧ n ≤ 60) := hsb
  have hbn : rb2 = false → rb1 = q := hbn
  unfold leA at *
  have hL := heap_new w2 (.cells #[.int .i64 q.total, .int .i64 q.free, .int .i64 q.held, .int .i64 q.sold, .int .i64 q.tied] 25)
  have bW := b2.alloc b2.size (.cells #[.int .i64 q.total, .int .i64 q.free, .int .i64 q.held, .int .i64 q.sold, .int .i64 q.tied] 25)
  clear b2
  have c0 := cell_of_row _ _ 0 _ _ _ hL
  have c1 := cell_of_row _ _ 1 _ _ _ hL
  have c2 := cell_of_row _ _ 2 _ _ _ hL
  have c3 := cell_of_row _ _ 3 _ _ _ hL
  have c4 := cell_of_row _ _ 4 _ _ _ hL
  simp at c0 c1 c2 c3 c4
  go_wp2_with fail
  refine (CH.out _).mono ?_
  rintro e w3 ⟨rfl, x3⟩
  have Z3 := x3.size
  try simp only [World.size_alloc] at Z3
  have hL := blk_call hL x3
  have bW := bW.trans (x3.mono bW.size)
  clear c0 c1 c2 c3 c4
  clear x3
  have hA := heap_new w3 (.cells #[.int .i64 ra1.total, .int .i64 ra1.free, .int .i64 ra1.held, .int .i64 ra1.sold, .int .i64 ra1.tied] 25)
  have y : Below w3.heap.size w3 (w3.alloc (.cells #[.int .i64 ra1.total, .int .i64 ra1.free, .int .i64 ra1.held, .int .i64 ra1.sold, .int .i64 ra1.tied] 25)) := (Below.refl _ _).alloc (Nat.le_refl _) _
  have hL := blk_call hL y
  have bW := bW.trans (y.mono bW.size)
  clear y
  have c0 := cell_of_row _ _ 0 _ _ _ hL
  have c1 := cell_of_row _ _ 1 _ _ _ hL
  have c2 := cell_of_row _ _ 2 _ _ _ hL
  have c3 := cell_of_row _ _ 3 _ _ _ hL
  have c4 := cell_of_row _ _ 4 _ _ _ hL
  simp at c0 c1 c2 c3 c4
  go_wp2_with fail
  refine (CS.out _).mono ?_
  rintro e w4 ⟨rfl, x4⟩
  have Z4 := x4.size
  try simp only [World.size_alloc] at Z4
  have hL := blk_call hL x4
  have hA := blk_call hA x4
  have bW := bW.trans (x4.mono bW.size)
  clear c0 c1 c2 c3 c4
  clear x4
  have hB := heap_new w4 (.cells #[.int .i64 rb1.total, .int .i64 rb1.free, .int .i64 rb1.held, .int .i64 rb1.sold, .int .i64 rb1.tied] 25)
  have y : Below w4.heap.size w4 (w4.alloc (.cells #[.int .i64 rb1.total, .int .i64 rb1.free, .int .i64 rb1.held, .int .i64 rb1.sold, .int .i64 rb1.tied] 25)) := (Below.refl _ _).alloc (Nat.le_refl _) _
  have hL := blk_call hL y
  have hA := blk_call hA y
  have bW := bW.trans (y.mono bW.size)
  clear y
  have c0 := cell_of_row _ _ 0 _ _ _ hL
  have c1 := cell_of_row _ _ 1 _ _ _ hL
  have c2 := cell_of_row _ _ 2 _ _ _ hL
  have c3 := cell_of_row _ _ 3 _ _ _ hL
  have c4 := cell_of_row _ _ 4 _ _ _ hL
  simp at c0 c1 c2 c3 c4
  go_wp2_with fail
  refine (CT.out _).mono ?_
  rintro e w5 ⟨rfl, x5⟩
  have Z5 := x5.size
  try simp only [World.size_alloc] at Z5
  have hL := blk_call hL x5
  have hA := blk_call hA x5
  have hB := blk_call hB x5
  have bW := bW.trans (x5.mono bW.size)
  clear c0 c1 c2 c3 c4
  clear x5
  have hT := heap_new w5 (.cells #[.int .i64 rt1.total, .int .i64 rt1.free, .int .i64 rt1.held, .int .i64 rt1.sold, .int .i64 rt1.tied] 25)
  have y : Below w5.heap.size w5 (w5.alloc (.cells #[.int .i64 rt1.total, .int .i64 rt1.free, .int .i64 rt1.held, .int .i64 rt1.sold, .int .i64 rt1.tied] 25)) := (Below.refl _ _).alloc (Nat.le_refl _) _
  have hL := blk_call hL y
  have hA := blk_call hA y
  have hB := blk_call hB y
  have bW := bW.trans (y.mono bW.size)
  clear y
  have c0 := cell_of_row _ _ 0 _ _ _ hL
  have c1 := cell_of_row _ _ 1 _ _ _ hL
  have c2 := cell_of_row _ _ 2 _ _ _ hL
  have c3 := cell_of_row _ _ 3 _ _ _ hL
  have c4 := cell_of_row _ _ 4 _ _ _ hL
  simp at c0 c1 c2 c3 c4
  go_wp2_with fail
  refine (SH.out _).mono ?_
  rintro e w6 ⟨rfl, x6⟩
  have Z6 := x6.size
  try simp only [World.size_alloc] at Z6
  have hL := blk_call hL x6
  have hA := blk_call hA x6
  have hB := blk_call hB x6
  have hT := blk_call hT x6
  have bW := bW.trans (x6.mono bW.size)
  clear c0 c1 c2 c3 c4
  clear x6
  have hx1 := heap_new w6 (.cells #[.int .i64 ra1.total, .int .i64 ra1.free, .int .i64 ra1.held, .int .i64 ra1.sold, .int .i64 ra1.tied] 25)
  have y : Below w6.heap.size w6 (w6.alloc (.cells #[.int .i64 ra1.total, .int .i64 ra1.free, .int .i64 ra1.held, .int .i64 ra1.sold, .int .i64 ra1.tied] 25)) := (Below.refl _ _).alloc (Nat.le_refl _) _
  have hL := blk_call hL y
  have hA := blk_call hA y
  have hB := blk_call hB y
  have hT := blk_call hT y
  have bW := bW.trans (y.mono bW.size)
  clear y
  clear hx1
  have c0 := cell_of_row _ _ 0 _ _ _ hL
  have c1 := cell_of_row _ _ 1 _ _ _ hL
  have c2 := cell_of_row _ _ 2 _ _ _ hL
  have c3 := cell_of_row _ _ 3 _ _ _ hL
  have c4 := cell_of_row _ _ 4 _ _ _ hL
  simp at c0 c1 c2 c3 c4
  go_wp2_with fail
  refine (SS.out _).mono ?_
  rintro e w7 ⟨rfl, x7⟩
  have Z7 := x7.size
  try simp only [World.size_alloc] at Z7
  have hL := blk_call hL x7
  have hA := blk_call hA x7
  have hB := blk_call hB x7
  have hT := blk_call hT x7
  have bW := bW.trans (x7.mono bW.size)
  clear c0 c1 c2 c3 c4
  clear x7
  have hx2 := heap_new w7 (.cells #[.int .i64 rb1.total, .int .i64 rb1.free, .int .i64 rb1.held, .int .i64 rb1.sold, .int .i64 rb1.tied] 25)
  have y : Below w7.heap.size w7 (w7.alloc (.cells #[.int .i64 rb1.total, .int .i64 rb1.free, .int .i64 rb1.held, .int .i64 rb1.sold, .int .i64 rb1.tied] 25)) := (Below.refl _ _).alloc (Nat.le_refl _) _
  have hL := blk_call hL y
  have hA := blk_call hA y
  have hB := blk_call hB y
  have hT := blk_call hT y
  have bW := bW.trans (y.mono bW.size)
  clear y
  clear hx2
  have c0 := cell_of_row _ _ 0 _ _ _ hL
  have c1 := cell_of_row _ _ 1 _ _ _ hL
  have c2 := cell_of_row _ _ 2 _ _ _ hL
  have c3 := cell_of_row _ _ 3 _ _ _ hL
  have c4 := cell_of_row _ _ 4 _ _ _ hL
  simp at c0 c1 c2 c3 c4
  go_wp2_with fail
  refine (ST.out _).mono ?_
  rintro e w8 ⟨rfl, x8⟩
  have Z8 := x8.size
  try simp only [World.size_alloc] at Z8
  have hL := blk_call hL x8
  have hA := blk_call hA x8
  have hB := blk_call hB x8
  have hT := blk_call hT x8
  have bW := bW.trans (x8.mono bW.size)
  clear c0 c1 c2 c3 c4
  clear x8
  have hx3 := heap_new w8 (.cells #[.int .i64 rt1.total, .int .i64 rt1.free, .int .i64 rt1.held, .int .i64 rt1.sold, .int .i64 rt1.tied] 25)
  have y : Below w8.heap.size w8 (w8.alloc (.cells #[.int .i64 rt1.total, .int .i64 rt1.free, .int .i64 rt1.held, .int .i64 rt1.sold, .int .i64 rt1.tied] 25)) := (Below.refl _ _).alloc (Nat.le_refl _) _
  have hL := blk_call hL y
  have hA := blk_call hA y
  have hB := blk_call hB y
  have hT := blk_call hT y
  have bW := bW.trans (y.mono bW.size)
  clear y
  clear hx3
  cases ra2 with
  | false =>
    cases rt2 with
    | false =>
      cases rb2 with
      | false =>
        have hbe := hbn (by first | rfl | trivial)
        rw [hbe] at hB
        clear hbe
        have d0 := cell_of_row _ _ 0 _ _ _ hB
        have d1 := cell_of_row _ _ 1 _ _ _ hB
        have d2 := cell_of_row _ _ 2 _ _ _ hB
        have d3 := cell_of_row _ _ 3 _ _ _ hB
        have d4 := cell_of_row _ _ 4 _ _ _ hB
        simp at d0 d1 d2 d3 d4
        have c0 := cell_of_row _ _ 0 _ _ _ hL
        have c1 := cell_of_row _ _ 1 _ _ _ hL
        have c2 := cell_of_row _ _ 2 _ _ _ hL
        have c3 := cell_of_row _ _ 3 _ _ _ hL
        have c4 := cell_of_row _ _ 4 _ _ _ hL
        simp at c0 c1 c2 c3 c4
        have HB := Lib.hid bW
        clear bW hL hA hB hT
        go_wp2
        go_ret
        exact ⟨rfl, HB.out⟩
      | true =>
        have c0 := cell_of_row _ _ 0 _ _ _ hB
        have c1 := cell_of_row _ _ 1 _ _ _ hB
        have c2 := cell_of_row _ _ 2 _ _ _ hB
        have c3 := cell_of_row _ _ 3 _ _ _ hB
        have c4 := cell_of_row _ _ 4 _ _ _ hB
        simp at c0 c1 c2 c3 c4
        go_wp2_with fail
        refine (CF.out (by first | rfl | trivial) _).mono ?_
        rintro e w20 ⟨rfl, x20⟩
        have Z20 := x20.size
        try simp only [World.size_alloc] at Z20
        have hL := blk_call hL x20
        have hA := blk_call hA x20
        have hB := blk_call hB x20
        have hT := blk_call hT x20
        have bW := bW.trans (x20.mono bW.size)
        clear c0 c1 c2 c3 c4
        clear x20
        have hK := heap_new w20 (.cells #[.int .i64 q.total, .int .i64 (q.free + n), .int .i64 (q.held - n), .int .i64 q.sold, .int .i64 q.tied] 25)
        have y : Below w20.heap.size w20 (w20.alloc (.cells #[.int .i64 q.total, .int .i64 (q.free + n), .int .i64 (q.held - n), .int .i64 q.sold, .int .i64 q.tied] 25)) := (Below.refl _ _).alloc (Nat.le_refl _) _
        have hL := blk_call hL y
        have hA := blk_call hA y
        have hB := blk_call hB y
        have hT := blk_call hT y
        have bW := bW.trans (y.mono bW.size)
        clear y
        have d0 := cell_of_row _ _ 0 _ _ _ hK
        have d1 := cell_of_row _ _ 1 _ _ _ hK
        have d2 := cell_of_row _ _ 2 _ _ _ hK
        have d3 := cell_of_row _ _ 3 _ _ _ hK
        have d4 := cell_of_row _ _ 4 _ _ _ hK
        simp at d0 d1 d2 d3 d4
        have c0 := cell_of_row _ _ 0 _ _ _ hL
        have c1 := cell_of_row _ _ 1 _ _ _ hL
        have c2 := cell_of_row _ _ 2 _ _ _ hL
        have c3 := cell_of_row _ _ 3 _ _ _ hL
        have c4 := cell_of_row _ _ 4 _ _ _ hL
        simp at c0 c1 c2 c3 c4
        have HB := Lib.hid bW
        clear bW hL hA hB hT hK
        have ⟨b1, b2, b3⟩ := hsb (by first | rfl | trivial)
        have z1 : (q.free + n == q.free + n) = true := by simp
        have z2 : (q.held - n == q.held - n) = true := by simp
        have z3 : (q.sold == q.sold) = true := by simp
        go_wp2
        go_ret
        exact ⟨rfl, HB.out⟩
    | true =>
      have c0 := cell_of_row _ _ 0 _ _ _ hT
      have c1 := cell_of_row _ _ 1 _ _ _ hT
      have c2 := cell_of_row _ _ 2 _ _ _ hT
      have c3 := cell_of_row _ _ 3 _ _ _ hT
      have c4 := cell_of_row _ _ 4 _ _ _ hT
      simp at c0 c1 c2 c3 c4
      go_wp2_with fail
      refine (CU.out (by first | rfl | trivial) _).mono ?_
      rintro e w15 ⟨rfl, x15⟩
      have Z15 := x15.size
      try simp only [World.size_alloc] at Z15
      have hL := blk_call hL x15
      have hA := blk_call hA x15
      have hB := blk_call hB x15
      have hT := blk_call hT x15
      have bW := bW.trans (x15.mono bW.size)
      clear c0 c1 c2 c3 c4
      clear x15
      have hK2 := heap_new w15 (.cells #[.int .i64 q.total, .int .i64 q.free, .int .i64 q.held, .int .i64 q.sold, .int .i64 q.tied] 25)
      have y : Below w15.heap.size w15 (w15.alloc (.cells #[.int .i64 q.total, .int .i64 q.free, .int .i64 q.held, .int .i64 q.sold, .int .i64 q.tied] 25)) := (Below.refl _ _).alloc (Nat.le_refl _) _
      have hL := blk_call hL y
      have hA := blk_call hA y
      have hB := blk_call hB y
      have hT := blk_call hT y
      have bW := bW.trans (y.mono bW.size)
      clear y
      have d0 := cell_of_row _ _ 0 _ _ _ hK2
      have d1 := cell_of_row _ _ 1 _ _ _ hK2
      have d2 := cell_of_row _ _ 2 _ _ _ hK2
      have d3 := cell_of_row _ _ 3 _ _ _ hK2
      have d4 := cell_of_row _ _ 4 _ _ _ hK2
      simp at d0 d1 d2 d3 d4
      have c0 := cell_of_row _ _ 0 _ _ _ hL
      have c1 := cell_of_row _ _ 1 _ _ _ hL
      have c2 := cell_of_row _ _ 2 _ _ _ hL
      have c3 := cell_of_row _ _ 3 _ _ _ hL
      have c4 := cell_of_row _ _ 4 _ _ _ hL
      simp at c0 c1 c2 c3 c4
      cases rb2 with
      | false =>
        go_upto_region 23 with fail
        clear d0 d1 d2 d3 d4 c0 c1 c2 c3 c4
        clear hK2
        have hbe := hbn (by first | rfl | trivial)
        rw [hbe] at hB
        clear hbe
        have d0 := cell_of_row _ _ 0 _ _ _ hB
        have d1 := cell_of_row _ _ 1 _ _ _ hB
        have d2 := cell_of_row _ _ 2 _ _ _ hB
        have d3 := cell_of_row _ _ 3 _ _ _ hB
        have d4 := cell_of_row _ _ 4 _ _ _ hB
        simp at d0 d1 d2 d3 d4
        have c0 := cell_of_row _ _ 0 _ _ _ hL
        have c1 := cell_of_row _ _ 1 _ _ _ hL
        have c2 := cell_of_row _ _ 2 _ _ _ hL
        have c3 := cell_of_row _ _ 3 _ _ _ hL
        have c4 := cell_of_row _ _ 4 _ _ _ hL
        simp at c0 c1 c2 c3 c4
        have HB := Lib.hid bW
        clear bW hL hA hB hT
        go_wp2
        go_ret
        exact ⟨rfl, HB.out⟩
      | true =>
        go_upto_region 21 with fail
        clear d0 d1 d2 d3 d4 c0 c1 c2 c3 c4
        clear hK2
        have c0 := cell_of_row _ _ 0 _ _ _ hB
        have c1 := cell_of_row _ _ 1 _ _ _ hB
        have c2 := cell_of_row _ _ 2 _ _ _ hB
        have c3 := cell_of_row _ _ 3 _ _ _ hB
        have c4 := cell_of_row _ _ 4 _ _ _ hB
        simp at c0 c1 c2 c3 c4
        go_wp2_with fail
        refine (CF.out (by first | rfl | trivial) _).mono ?_
        rintro e w20 ⟨rfl, x20⟩
        have Z20 := x20.size
        try simp only [World.size_alloc] at Z20
        have hL := blk_call hL x20
        have hA := blk_call hA x20
        have hB := blk_call hB x20
        have hT := blk_call hT x20
        have bW := bW.trans (x20.mono bW.size)
        clear c0 c1 c2 c3 c4
        clear x20
        have hK := heap_new w20 (.cells #[.int .i64 q.total, .int .i64 (q.free + n), .int .i64 (q.held - n), .int .i64 q.sold, .int .i64 q.tied] 25)
        have y : Below w20.heap.size w20 (w20.alloc (.cells #[.int .i64 q.total, .int .i64 (q.free + n), .int .i64 (q.held - n), .int .i64 q.sold, .int .i64 q.tied] 25)) := (Below.refl _ _).alloc (Nat.le_refl _) _
        have hL := blk_call hL y
        have hA := blk_call hA y
        have hB := blk_call hB y
        have hT := blk_call hT y
        have bW := bW.trans (y.mono bW.size)
        clear y
        have d0 := cell_of_row _ _ 0 _ _ _ hK
        have d1 := cell_of_row _ _ 1 _ _ _ hK
        have d2 := cell_of_row _ _ 2 _ _ _ hK
        have d3 := cell_of_row _ _ 3 _ _ _ hK
        have d4 := cell_of_row _ _ 4 _ _ _ hK
        simp at d0 d1 d2 d3 d4
        have c0 := cell_of_row _ _ 0 _ _ _ hL
        have c1 := cell_of_row _ _ 1 _ _ _ hL
        have c2 := cell_of_row _ _ 2 _ _ _ hL
        have c3 := cell_of_row _ _ 3 _ _ _ hL
        have c4 := cell_of_row _ _ 4 _ _ _ hL
        simp at c0 c1 c2 c3 c4
        have HB := Lib.hid bW
        clear bW hL hA hB hT hK
        have ⟨b1, b2, b3⟩ := hsb (by first | rfl | trivial)
        have z1 : (q.free + n == q.free + n) = true := by simp
        have z2 : (q.held - n == q.held - n) = true := by simp
        have z3 : (q.sold == q.sold) = true := by simp
        go_wp2
        go_ret
        exact ⟨rfl, HB.out⟩
  | true =>
    have c0 := cell_of_row _ _ 0 _ _ _ hA
    have c1 := cell_of_row _ _ 1 _ _ _ hA
    have c2 := cell_of_row _ _ 2 _ _ _ hA
    have c3 := cell_of_row _ _ 3 _ _ _ hA
    have c4 := cell_of_row _ _ 4 _ _ _ hA
    simp at c0 c1 c2 c3 c4
    go_wp2_with fail
    refine (CD.out (by first | rfl | trivial) _).mono ?_
    rintro e w12 ⟨rfl, x12⟩
    have Z12 := x12.size
    try simp only [World.size_alloc] at Z12
    have hL := blk_call hL x12
    have hA := blk_call hA x12
    have hB := blk_call hB x12
    have hT := blk_call hT x12
    have bW := bW.trans (x12.mono bW.size)
    clear c0 c1 c2 c3 c4
    clear x12
    have hK1 := heap_new w12 (.cells #[.int .i64 q.total, .int .i64 q.free, .int .i64 q.held, .int .i64 q.sold, .int .i64 q.tied] 25)
    have y : Below w12.heap.size w12 (w12.alloc (.cells #[.int .i64 q.total, .int .i64 q.free, .int .i64 q.held, .int .i64 q.sold, .int .i64 q.tied] 25)) := (Below.refl _ _).alloc (Nat.le_refl _) _
    have hL := blk_call hL y
    have hA := blk_call hA y
    have hB := blk_call hB y
    have hT := blk_call hT y
    have bW := bW.trans (y.mono bW.size)
    clear y
    have d0 := cell_of_row _ _ 0 _ _ _ hK1
    have d1 := cell_of_row _ _ 1 _ _ _ hK1
    have d2 := cell_of_row _ _ 2 _ _ _ hK1
    have d3 := cell_of_row _ _ 3 _ _ _ hK1
    have d4 := cell_of_row _ _ 4 _ _ _ hK1
    simp at d0 d1 d2 d3 d4
    have c0 := cell_of_row _ _ 0 _ _ _ hL
    have c1 := cell_of_row _ _ 1 _ _ _ hL
    have c2 := cell_of_row _ _ 2 _ _ _ hL
    have c3 := cell_of_row _ _ 3 _ _ _ hL
    have c4 := cell_of_row _ _ 4 _ _ _ hL
    simp at c0 c1 c2 c3 c4
    cases rt2 with
    | false =>
      cases rb2 with
      | false =>
        go_upto_region 23 with fail
        clear d0 d1 d2 d3 d4 c0 c1 c2 c3 c4
        clear hK1
        have hbe := hbn (by first | rfl | trivial)
        rw [hbe] at hB
        clear hbe
        have d0 := cell_of_row _ _ 0 _ _ _ hB
        have d1 := cell_of_row _ _ 1 _ _ _ hB
        have d2 := cell_of_row _ _ 2 _ _ _ hB
        have d3 := cell_of_row _ _ 3 _ _ _ hB
        have d4 := cell_of_row _ _ 4 _ _ _ hB
        simp at d0 d1 d2 d3 d4
        have c0 := cell_of_row _ _ 0 _ _ _ hL
        have c1 := cell_of_row _ _ 1 _ _ _ hL
        have c2 := cell_of_row _ _ 2 _ _ _ hL
        have c3 := cell_of_row _ _ 3 _ _ _ hL
        have c4 := cell_of_row _ _ 4 _ _ _ hL
        simp at c0 c1 c2 c3 c4
        have HB := Lib.hid bW
        clear bW hL hA hB hT
        go_wp2
        go_ret
        exact ⟨rfl, HB.out⟩
      | true =>
        go_upto_region 21 with fail
        clear d0 d1 d2 d3 d4 c0 c1 c2 c3 c4
        clear hK1
        have c0 := cell_of_row _ _ 0 _ _ _ hB
        have c1 := cell_of_row _ _ 1 _ _ _ hB
        have c2 := cell_of_row _ _ 2 _ _ _ hB
        have c3 := cell_of_row _ _ 3 _ _ _ hB
        have c4 := cell_of_row _ _ 4 _ _ _ hB
        simp at c0 c1 c2 c3 c4
        go_wp2_with fail
        refine (CF.out (by first | rfl | trivial) _).mono ?_
        rintro e w20 ⟨rfl, x20⟩
        have Z20 := x20.size
        try simp only [World.size_alloc] at Z20
        have hL := blk_call hL x20
        have hA := blk_call hA x20
        have hB := blk_call hB x20
        have hT := blk_call hT x20
        have bW := bW.trans (x20.mono bW.size)
        clear c0 c1 c2 c3 c4
        clear x20
        have hK := heap_new w20 (.cells #[.int .i64 q.total, .int .i64 (q.free + n), .int .i64 (q.held - n), .int .i64 q.sold, .int .i64 q.tied] 25)
        have y : Below w20.heap.size w20 (w20.alloc (.cells #[.int .i64 q.total, .int .i64 (q.free + n), .int .i64 (q.held - n), .int .i64 q.sold, .int .i64 q.tied] 25)) := (Below.refl _ _).alloc (Nat.le_refl _) _
        have hL := blk_call hL y
        have hA := blk_call hA y
        have hB := blk_call hB y
        have hT := blk_call hT y
        have bW := bW.trans (y.mono bW.size)
        clear y
        have d0 := cell_of_row _ _ 0 _ _ _ hK
        have d1 := cell_of_row _ _ 1 _ _ _ hK
        have d2 := cell_of_row _ _ 2 _ _ _ hK
        have d3 := cell_of_row _ _ 3 _ _ _ hK
        have d4 := cell_of_row _ _ 4 _ _ _ hK
        simp at d0 d1 d2 d3 d4
        have c0 := cell_of_row _ _ 0 _ _ _ hL
        have c1 := cell_of_row _ _ 1 _ _ _ hL
        have c2 := cell_of_row _ _ 2 _ _ _ hL
        have c3 := cell_of_row _ _ 3 _ _ _ hL
        have c4 := cell_of_row _ _ 4 _ _ _ hL
        simp at c0 c1 c2 c3 c4
        have HB := Lib.hid bW
        clear bW hL hA hB hT hK
        have ⟨b1, b2, b3⟩ := hsb (by first | rfl | trivial)
        have z1 : (q.free + n == q.free + n) = true := by simp
        have z2 : (q.held - n == q.held - n) = true := by simp
        have z3 : (q.sold == q.sold) = true := by simp
        go_wp2
        go_ret
        exact ⟨rfl, HB.out⟩
    | true =>
      go_upto_region 17 with fail
      clear d0 d1 d2 d3 d4 c0 c1 c2 c3 c4
      clear hK1
      have c0 := cell_of_row _ _ 0 _ _ _ hT
      have c1 := cell_of_row _ _ 1 _ _ _ hT
      have c2 := cell_of_row _ _ 2 _ _ _ hT
      have c3 := cell_of_row _ _ 3 _ _ _ hT
      have c4 := cell_of_row _ _ 4 _ _ _ hT
      simp at c0 c1 c2 c3 c4
      go_wp2_with fail
      refine (CU.out (by first | rfl | trivial) _).mono ?_
      rintro e w15 ⟨rfl, x15⟩
      have Z15 := x15.size
      try simp only [World.size_alloc] at Z15
      have hL := blk_call hL x15
      have hA := blk_call hA x15
      have hB := blk_call hB x15
      have hT := blk_call hT x15
      have bW := bW.trans (x15.mono bW.size)
      clear c0 c1 c2 c3 c4
      clear x15
      have hK2 := heap_new w15 (.cells #[.int .i64 q.total, .int .i64 q.free, .int .i64 q.held, .int .i64 q.sold, .int .i64 q.tied] 25)
      have y : Below w15.heap.size w15 (w15.alloc (.cells #[.int .i64 q.total, .int .i64 q.free, .int .i64 q.held, .int .i64 q.sold, .int .i64 q.tied] 25)) := (Below.refl _ _).alloc (Nat.le_refl _) _
      have hL := blk_call hL y
      have hA := blk_call hA y
      have hB := blk_call hB y
      have hT := blk_call hT y
      have bW := bW.trans (y.mono bW.size)
      clear y
      have d0 := cell_of_row _ _ 0 _ _ _ hK2
      have d1 := cell_of_row _ _ 1 _ _ _ hK2
      have d2 := cell_of_row _ _ 2 _ _ _ hK2
      have d3 := cell_of_row _ _ 3 _ _ _ hK2
      have d4 := cell_of_row _ _ 4 _ _ _ hK2
      simp at d0 d1 d2 d3 d4
      have c0 := cell_of_row _ _ 0 _ _ _ hL
      have c1 := cell_of_row _ _ 1 _ _ _ hL
      have c2 := cell_of_row _ _ 2 _ _ _ hL
      have c3 := cell_of_row _ _ 3 _ _ _ hL
      have c4 := cell_of_row _ _ 4 _ _ _ hL
      simp at c0 c1 c2 c3 c4
      cases rb2 with
      | false =>
        go_upto_region 23 with fail
        clear d0 d1 d2 d3 d4 c0 c1 c2 c3 c4
        clear hK2
        have hbe := hbn (by first | rfl | trivial)
        rw [hbe] at hB
        clear hbe
        have d0 := cell_of_row _ _ 0 _ _ _ hB
        have d1 := cell_of_row _ _ 1 _ _ _ hB
        have d2 := cell_of_row _ _ 2 _ _ _ hB
        have d3 := cell_of_row _ _ 3 _ _ _ hB
        have d4 := cell_of_row _ _ 4 _ _ _ hB
        simp at d0 d1 d2 d3 d4
        have c0 := cell_of_row _ _ 0 _ _ _ hL
        have c1 := cell_of_row _ _ 1 _ _ _ hL
        have c2 := cell_of_row _ _ 2 _ _ _ hL
        have c3 := cell_of_row _ _ 3 _ _ _ hL
        have c4 := cell_of_row _ _ 4 _ _ _ hL
        simp at c0 c1 c2 c3 c4
        have HB := Lib.hid bW
        clear bW hL hA hB hT
        go_wp2
        go_ret
        exact ⟨rfl, HB.out⟩
      | true =>
        go_upto_region 21 with fail
        clear d0 d1 d2 d3 d4 c0 c1 c2 c3 c4
        clear hK2
        have c0 := cell_of_row _ _ 0 _ _ _ hB
        have c1 := cell_of_row _ _ 1 _ _ _ hB
        have c2 := cell_of_row _ _ 2 _ _ _ hB
        have c3 := cell_of_row _ _ 3 _ _ _ hB
        have c4 := cell_of_row _ _ 4 _ _ _ hB
        simp at c0 c1 c2 c3 c4
        go_wp2_with fail
        refine (CF.out (by first | rfl | trivial) _).mono ?_
        rintro e w20 ⟨rfl, x20⟩
        have Z20 := x20.size
        try simp only [World.size_alloc] at Z20
        have hL := blk_call hL x20
        have hA := blk_call hA x20
        have hB := blk_call hB x20
        have hT := blk_call hT x20
        have bW := bW.trans (x20.mono bW.size)
        clear c0 c1 c2 c3 c4
        clear x20
        have hK := heap_new w20 (.cells #[.int .i64 q.total, .int .i64 (q.free + n), .int .i64 (q.held - n), .int .i64 q.sold, .int .i64 q.tied] 25)
        have y : Below w20.heap.size w20 (w20.alloc (.cells #[.int .i64 q.total, .int .i64 (q.free + n), .int .i64 (q.held - n), .int .i64 q.sold, .int .i64 q.tied] 25)) := (Below.refl _ _).alloc (Nat.le_refl _) _
        have hL := blk_call hL y
        have hA := blk_call hA y
        have hB := blk_call hB y
        have hT := blk_call hT y
        have bW := bW.trans (y.mono bW.size)
        clear y
        have d0 := cell_of_row _ _ 0 _ _ _ hK
        have d1 := cell_of_row _ _ 1 _ _ _ hK
        have d2 := cell_of_row _ _ 2 _ _ _ hK
        have d3 := cell_of_row _ _ 3 _ _ _ hK
        have d4 := cell_of_row _ _ 4 _ _ _ hK
        simp at d0 d1 d2 d3 d4
        have c0 := cell_of_row _ _ 0 _ _ _ hL
        have c1 := cell_of_row _ _ 1 _ _ _ hL
        have c2 := cell_of_row _ _ 2 _ _ _ hL
        have c3 := cell_of_row _ _ 3 _ _ _ hL
        have c4 := cell_of_row _ _ 4 _ _ _ hL
        simp at c0 c1 c2 c3 c4
        have HB := Lib.hid bW
        clear bW hL hA hB hT hK
        have ⟨b1, b2, b3⟩ := hsb (by first | rfl | trivial)
        have z1 : (q.free + n == q.free + n) = true := by simp
        have z2 : (q.held - n == q.held - n) = true := by simp
        have z3 : (q.sold == q.sold) = true := by simp
        go_wp2
        go_ret
        exact ⟨rfl, HB.out⟩
end Go.Proofs.Ytjnmdnpknlakhaa
