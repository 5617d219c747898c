/- Parties that come in; Resting, Due; the walks of the laws FnExactResting, FnExactDue. -/
import Derived.Test.YtohpegblbikbdaaRows
import Derived.Test.YtohpegblbikbdaaHs3
namespace Go.Proofs.Ytohpegblbikbdaa
open Go.RowKit
set_option linter.unusedSimpArgs false
set_option linter.unusedVariables false
set_option maxRecDepth 100000 in
set_option maxHeartbeats 1600000 in
theorem toParty_any (p : Pt) (w : World) : Calls Try.prog 15 #[ptA p] w fun e w' => e = .returned (ptA p) ∧ Below w.heap.size w w' := by
  obtain ⟨p0, p1, p2, p3, p4, p5, p6, p7, p8, p9⟩ := p
  unfold ptA
  go_enter Try.func15, Try.ntmps15
  go_wp2
  simp [bodyPost, results, Try.results15, go_sem]
  exact (((Below.refl _ _).alloc (Nat.le_refl _) _).alloc (by simp) _).alloc (by simp; omega) _
set_option maxRecDepth 100000 in
theorem resting_spec (p : Pt) (n : Int) (w : World) : Calls Try.prog 14 #[ptA p, .int .i64 n] w fun e w' => e = .returned (.bool (decide (p.state = 1 ∧ n < p.until_))) ∧ Below w.heap.size w w' := by
  obtain ⟨p0, p1, p2, p3, p4, p5, p6, p7, p8, p9⟩ := p
  unfold ptA
  by_cases h1 : p7 = 1
  · by_cases h2 : n < p8
    · go_enter Try.func14, Try.ntmps14
      go_wp2
      go_ret
      exact ⟨by simp [h1, h2], (Below.refl _ _).alloc (Nat.le_refl _) _⟩
    · go_enter Try.func14, Try.ntmps14
      go_wp2
      go_ret
      exact ⟨by simp [h1]; omega, (Below.refl _ _).alloc (Nat.le_refl _) _⟩
  · go_enter Try.func14, Try.ntmps14
    go_wp2
    go_ret
    exact ⟨by simp [h1], (Below.refl _ _).alloc (Nat.le_refl _) _⟩
set_option maxRecDepth 100000 in
theorem due_spec (p : Pt) (n : Int) (w : World) : Calls Try.prog 17 #[ptA p, .int .i64 n] w fun e w' => e = .returned (.bool (decide (p.state = 2 ∧ p.until_ ≤ n))) ∧ Below w.heap.size w w' := by
  obtain ⟨p0, p1, p2, p3, p4, p5, p6, p7, p8, p9⟩ := p
  unfold ptA
  by_cases h1 : p7 = 2
  · by_cases h2 : p8 ≤ n
    · go_enter Try.func17, Try.ntmps17
      go_wp2
      go_ret
      exact ⟨by simp [h1, h2], (Below.refl _ _).alloc (Nat.le_refl _) _⟩
    · go_enter Try.func17, Try.ntmps17
      go_wp2
      go_ret
      exact ⟨by simp [h1]; omega, (Below.refl _ _).alloc (Nat.le_refl _) _⟩
  · go_enter Try.func17, Try.ntmps17
    go_wp2
    go_ret
    exact ⟨by simp [h1], (Below.refl _ _).alloc (Nat.le_refl _) _⟩
set_option maxRecDepth 100000 in
theorem resting_wait (a b c n : Int) (w : World) : Calls Try.prog 34 #[.agg #[.int .i64 a, .int .i64 b, .int .i64 c], .int .i64 n] w fun e w' => e = .returned (.bool (decide (a = 1 ∧ n < b))) ∧ Below w.heap.size w w' := by
  by_cases h1 : a = 1
  · by_cases h2 : n < b
    · go_enter Try.func34, Try.ntmps34
      go_wp2
      go_ret
      exact ⟨by simp [h1, h2], (Below.refl _ _).alloc (Nat.le_refl _) _⟩
    · go_enter Try.func34, Try.ntmps34
      go_wp2
      go_ret
      exact ⟨by simp [h1]; omega, (Below.refl _ _).alloc (Nat.le_refl _) _⟩
  · go_enter Try.func34, Try.ntmps34
    go_wp2
    go_ret
    exact ⟨by simp [h1], (Below.refl _ _).alloc (Nat.le_refl _) _⟩
set_option maxRecDepth 100000 in
theorem due_wait (a b c n : Int) (w : World) : Calls Try.prog 35 #[.agg #[.int .i64 a, .int .i64 b, .int .i64 c], .int .i64 n] w fun e w' => e = .returned (.bool (decide (a = 2 ∧ b ≤ n))) ∧ Below w.heap.size w w' := by
  by_cases h1 : a = 2
  · by_cases h2 : b ≤ n
    · go_enter Try.func35, Try.ntmps35
      go_wp2
      go_ret
      exact ⟨by simp [h1, h2], (Below.refl _ _).alloc (Nat.le_refl _) _⟩
    · go_enter Try.func35, Try.ntmps35
      go_wp2
      go_ret
      exact ⟨by simp [h1]; omega, (Below.refl _ _).alloc (Nat.le_refl _) _⟩
  · go_enter Try.func35, Try.ntmps35
    go_wp2
    go_ret
    exact ⟨by simp [h1], (Below.refl _ _).alloc (Nat.le_refl _) _⟩
def guA (p : Pt) : Value := .agg #[.int .i64 p.id, .int .i64 p.cabin, .int .i64 p.from_, .int .i64 p.size, .int .i64 p.tier, .int .i64 p.since, .int .i64 p.turn, .int .i64 p.state, .int .i64 p.until_, .int .i64 p.asked]
set_option maxRecDepth 100000 in
set_option maxHeartbeats 1600000 in
theorem guestOf_any (p : Pt) (w : World) : Calls Try.prog 33 #[ptA p] w fun e w' => e = .returned (guA p) ∧ Below w.heap.size w w' := by
  obtain ⟨p0, p1, p2, p3, p4, p5, p6, p7, p8, p9⟩ := p
  unfold ptA guA
  go_enter Try.func33, Try.ntmps33
  go_wp2
  simp [bodyPost, results, Try.results33, go_sem]
  exact ((Below.refl _ _).alloc (Nat.le_refl _) _).alloc (by simp) _
set_option maxRecDepth 100000 in
theorem guest_wait (p0 p1 p2 p3 p4 p5 p6 p7 p8 p9 : Int) (w : World) : Sem.run Try.prog (Instr.field 69 (Value.agg #[.int .i64 p0, .int .i64 p1, .int .i64 p2, .int .i64 p3, .int .i64 p4, .int .i64 p5, .int .i64 p6, .int .i64 p7, .int .i64 p8, .int .i64 p9]) 7) w = Result.ok (Value.agg #[.int .i64 p7, .int .i64 p8, .int .i64 p9]) w := by
  kernel_rfl
set_option maxRecDepth 100000 in
theorem resting_impl (p : Pt) (n : Int) (w : World) : Calls Try.prog 16 #[ptA p, .int .i64 n] w fun e w' => e = .returned (.bool (decide (p.state = 1 ∧ n < p.until_))) ∧ Below w.heap.size w w' := by
  have C1 := Lib.hid (fun w => guestOf_any p w)
  have C2 := Lib.hid (fun w => resting_wait p.state p.until_ p.asked n w)
  generalize decide (p.state = 1 ∧ n < p.until_) = R at C2 ⊢
  obtain ⟨p0, p1, p2, p3, p4, p5, p6, p7, p8, p9⟩ := p
  unfold ptA guA at C1
  unfold ptA
  go_enter Try.func16, Try.ntmps16
  go_wp2_with fail
  refine (C1.out _).mono ?_
  rintro e w1 ⟨rfl, b1⟩
  go_wp2_with fail
  rw [guest_wait]
  go_wp2_with fail
  refine (C2.out _).mono ?_
  rintro e w2 ⟨rfl, b2⟩
  go_wp2
  go_ret
  exact ⟨rfl, boxB _ _ _ (b1.trans (b2.mono b1.size))⟩
set_option maxRecDepth 100000 in
theorem due_impl (p : Pt) (n : Int) (w : World) : Calls Try.prog 18 #[ptA p, .int .i64 n] w fun e w' => e = .returned (.bool (decide (p.state = 2 ∧ p.until_ ≤ n))) ∧ Below w.heap.size w w' := by
  have C1 := Lib.hid (fun w => guestOf_any p w)
  have C2 := Lib.hid (fun w => due_wait p.state p.until_ p.asked n w)
  generalize decide (p.state = 2 ∧ p.until_ ≤ n) = R at C2 ⊢
  obtain ⟨p0, p1, p2, p3, p4, p5, p6, p7, p8, p9⟩ := p
  unfold ptA guA at C1
  unfold ptA
  go_enter Try.func18, Try.ntmps18
  go_wp2_with fail
  refine (C1.out _).mono ?_
  rintro e w1 ⟨rfl, b1⟩
  go_wp2_with fail
  rw [guest_wait]
  go_wp2_with fail
  refine (C2.out _).mono ?_
  rintro e w2 ⟨rfl, b2⟩
  go_wp2
  go_ret
  exact ⟨rfl, boxB _ _ _ (b1.trans (b2.mono b1.size))⟩
set_option maxRecDepth 100000 in
set_option maxHeartbeats 800000 in
theorem FnExactResting_walk (p : Pt) (n : Int) (w : World) : Calls Try.prog 4 #[ptA p, .int .i64 n] w fun e w' => e = .returned (.bool true) ∧ Below w.heap.size w w' := by
  have CT := Lib.hid (fun w => toParty_any p w)
  have C1 := Lib.hid (fun w => resting_spec p n w)
  have C2 := Lib.hid (fun w => resting_impl p n w)
  generalize decide (p.state = 1 ∧ n < p.until_) = R at C1 C2
  have nt : (R != R) = false := by simp
  obtain ⟨p0, p1, p2, p3, p4, p5, p6, p7, p8, p9⟩ := p
  unfold ptA at CT C1 C2
  unfold ptA
  go_enter Try.func4, Try.ntmps4
  go_wp2_with fail
  refine (CT.out _).mono ?_
  rintro e w1 ⟨rfl, b1⟩
  go_wp2_with fail
  refine (C1.out _).mono ?_
  rintro e w2 ⟨rfl, b2⟩
  have b2 := b1.trans (b2.mono b1.size)
  clear b1
  have q0 := boxk w w2 _ _ b2 0 _ rfl
  have q1 := boxk w w2 _ _ b2 1 _ rfl
  have q2 := boxk w w2 _ _ b2 2 _ rfl
  have q3 := boxk w w2 _ _ b2 3 _ rfl
  have q4 := boxk w w2 _ _ b2 4 _ rfl
  have q5 := boxk w w2 _ _ b2 5 _ rfl
  have q6 := boxk w w2 _ _ b2 6 _ rfl
  have q7 := boxk w w2 _ _ b2 7 _ rfl
  have q8 := boxk w w2 _ _ b2 8 _ rfl
  have q9 := boxk w w2 _ _ b2 9 _ rfl
  go_wp2_with fail
  refine (CT.out _).mono ?_
  rintro e w3 ⟨rfl, b3⟩
  go_wp2_with fail
  refine (C2.out _).mono ?_
  rintro e w4 ⟨rfl, b4⟩
  have b4 := b2.trans ((b3.trans (b4.mono b3.size)).mono b2.size)
  clear b2 b3 q0 q1 q2 q3 q4 q5 q6 q7 q8 q9
  go_wp2
  go_ret
  exact ⟨rfl, boxB _ _ _ b4⟩
set_option maxRecDepth 100000 in
set_option maxHeartbeats 800000 in
theorem FnExactDue_walk (p : Pt) (n : Int) (w : World) : Calls Try.prog 5 #[ptA p, .int .i64 n] w fun e w' => e = .returned (.bool true) ∧ Below w.heap.size w w' := by
  have CT := Lib.hid (fun w => toParty_any p w)
  have C1 := Lib.hid (fun w => due_spec p n w)
  have C2 := Lib.hid (fun w => due_impl p n w)
  generalize decide (p.state = 2 ∧ p.until_ ≤ n) = R at C1 C2
  have nt : (R != R) = false := by simp
  obtain ⟨p0, p1, p2, p3, p4, p5, p6, p7, p8, p9⟩ := p
  unfold ptA at CT C1 C2
  unfold ptA
  go_enter Try.func5, Try.ntmps5
  go_wp2_with fail
  refine (CT.out _).mono ?_
  rintro e w1 ⟨rfl, b1⟩
  go_wp2_with fail
  refine (C1.out _).mono ?_
  rintro e w2 ⟨rfl, b2⟩
  have b2 := b1.trans (b2.mono b1.size)
  clear b1
  have q0 := boxk w w2 _ _ b2 0 _ rfl
  have q1 := boxk w w2 _ _ b2 1 _ rfl
  have q2 := boxk w w2 _ _ b2 2 _ rfl
  have q3 := boxk w w2 _ _ b2 3 _ rfl
  have q4 := boxk w w2 _ _ b2 4 _ rfl
  have q5 := boxk w w2 _ _ b2 5 _ rfl
  have q6 := boxk w w2 _ _ b2 6 _ rfl
  have q7 := boxk w w2 _ _ b2 7 _ rfl
  have q8 := boxk w w2 _ _ b2 8 _ rfl
  have q9 := boxk w w2 _ _ b2 9 _ rfl
  go_wp2_with fail
  refine (CT.out _).mono ?_
  rintro e w3 ⟨rfl, b3⟩
  go_wp2_with fail
  refine (C2.out _).mono ?_
  rintro e w4 ⟨rfl, b4⟩
  have b4 := b2.trans ((b3.trans (b4.mono b3.size)).mono b2.size)
  clear b2 b3 q0 q1 q2 q3 q4 q5 q6 q7 q8 q9
  go_wp2
  go_ret
  exact ⟨rfl, boxB _ _ _ b4⟩
end Go.Proofs.Ytohpegblbikbdaa
