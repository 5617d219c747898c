/- PartyOk, LevelOf of the model. -/
import Derived.Test.YtlflgflmlfileaaGreatRows
import Derived.Test.YtlflgflmlfileaaGreatHs3
namespace Go.Proofs.YtlflgflmlfileaaGreat
open Go.RowKit
set_option linter.unusedSimpArgs false
set_option linter.unusedVariables false
/-- What PartyOk tells. -/
def Pt.fine (r : Ru) (p : Pt) (now : Int) : Prop := r.fine ∧ (0 ≤ now ∧ now ≤ 1000000) ∧ (1 ≤ p.id ∧ p.id ≤ 999) ∧ (0 ≤ p.cabin ∧ p.cabin ≤ (r.seats.length : Int) - 1) ∧ (-1 ≤ p.from_ ∧ p.from_ ≤ (r.seats.length : Int) - 1) ∧ ¬ p.from_ = p.cabin ∧ (1 ≤ p.size ∧ p.size ≤ r.size) ∧ (0 ≤ p.tier ∧ p.tier ≤ r.tiers - 1) ∧ (0 ≤ p.since ∧ p.since ≤ now) ∧ (1 ≤ p.turn ∧ p.turn ≤ 1000000) ∧ (0 ≤ p.asked ∧ p.asked ≤ r.tries - 1) ∧ (p.state = 1 ∧ (0 ≤ p.until_ ∧ p.until_ ≤ now + r.rest) ∨ p.state = 2 ∧ (1 ≤ p.until_ ∧ p.until_ ≤ now + r.window))
instance (r : Ru) (p : Pt) (now : Int) : Decidable (Pt.fine r p now) := by unfold Pt.fine; infer_instance
set_option maxRecDepth 100000 in
set_option maxHeartbeats 6400000 in
theorem partyOk_spec (A : Option Addr) (c : Nat) (r : Ru) (p : Pt) (now : Int) (w : World) (hg : r.go) (hA : Rws w w.heap.size A (ints r.seats)) :
    Calls Tryz.prog 102 #[ruV A c r, ptA p, .int .i64 now] w fun e w' => e = .returned (.bool (decide (Pt.fine r p now))) ∧ Below w.heap.size w w' := by
  have b0 : Below w.heap.size w ((w.alloc (.cells #[.slice A r.seats.length c, .int .i64 r.tiers, .int .i64 r.room, .int .i64 r.size, .int .i64 r.period, .int .i64 r.window, .int .i64 r.rest, .int .i64 r.tries, .int .i64 r.crew] 34)).alloc (.cells #[.int .i64 p.id, .int .i64 p.cabin, .int .i64 p.from_, .int .i64 p.size, .int .i64 p.tier, .int .i64 p.since, .int .i64 p.turn, .int .i64 p.state, .int .i64 p.until_, .int .i64 p.asked] 26)) := ((Below.refl _ _).alloc (Nat.le_refl _) _).alloc (by simp) _
  have CR := Lib.hid (rulesOk_spec A c r ((w.alloc (.cells #[.slice A r.seats.length c, .int .i64 r.tiers, .int .i64 r.room, .int .i64 r.size, .int .i64 r.period, .int .i64 r.window, .int .i64 r.rest, .int .i64 r.tries, .int .i64 r.crew] 34)).alloc (.cells #[.int .i64 p.id, .int .i64 p.cabin, .int .i64 p.from_, .int .i64 p.size, .int .i64 p.tier, .int .i64 p.since, .int .i64 p.turn, .int .i64 p.state, .int .i64 p.until_, .int .i64 p.asked] 26)) hg (rws_below hA b0))
  clear b0
  unfold ruV at CR
  unfold ruV ptA
  by_cases hf : r.fine
  rotate_left
  · refine Calls.mono (R := fun e w' => e = .returned (.bool false) ∧ Below w.heap.size w w') ?_ (fun e w' h => ⟨by rw [h.1, decide_eq_false (fun hh => hf hh.1)], h.2⟩)
    rw [decide_eq_false hf] at CR
    go_enter Tryz.func102, Tryz.ntmps102
    go_wp2_with fail
    refine CR.out.mono ?_
    rintro e w1 ⟨rfl, b1⟩
    have bW := Lib.hid (boxB w w1 _ (boxB _ w1 _ b1))
    clear b1
    go_wp2
    go_ret
    exact ⟨rfl, bW.out⟩
  rw [decide_eq_true hf] at CR
  have HF := Lib.hid hf
  obtain ⟨⟨⟨n1, n2⟩, ⟨t1, t2⟩, _, ⟨s1, s2⟩, _⟩, _, ⟨wi1, wi2⟩, ⟨re1, re2⟩, ⟨tr1, tr2⟩, _⟩ := hf
  by_cases g1 : (0 ≤ now ∧ now ≤ 1000000)
  rotate_left
  · refine Calls.mono (R := fun e w' => e = .returned (.bool false) ∧ Below w.heap.size w w') ?_ (fun e w' h => ⟨by rw [h.1, decide_eq_false (fun hh => g1 (hh.2.1))], h.2⟩)
    go_enter Tryz.func102, Tryz.ntmps102
    go_wp2_with fail
    refine CR.out.mono ?_
    rintro e w1 ⟨rfl, b1⟩
    have q0 := boxk _ w1 _ _ b1 0 _ rfl
    have q1 := boxk _ w1 _ _ b1 1 _ rfl
    have q2 := boxk _ w1 _ _ b1 2 _ rfl
    have q3 := boxk _ w1 _ _ b1 3 _ rfl
    have q4 := boxk _ w1 _ _ b1 4 _ rfl
    have q5 := boxk _ w1 _ _ b1 5 _ rfl
    have q6 := boxk _ w1 _ _ b1 6 _ rfl
    have q7 := boxk _ w1 _ _ b1 7 _ rfl
    have q8 := boxk _ w1 _ _ b1 8 _ rfl
    have q9 := boxk _ w1 _ _ b1 9 _ rfl
    have p0 := boxk w w1 _ _ (boxB _ w1 _ b1) 0 _ rfl
    have p1 := boxk w w1 _ _ (boxB _ w1 _ b1) 1 _ rfl
    have p2 := boxk w w1 _ _ (boxB _ w1 _ b1) 2 _ rfl
    have p3 := boxk w w1 _ _ (boxB _ w1 _ b1) 3 _ rfl
    have p4 := boxk w w1 _ _ (boxB _ w1 _ b1) 4 _ rfl
    have p5 := boxk w w1 _ _ (boxB _ w1 _ b1) 5 _ rfl
    have p6 := boxk w w1 _ _ (boxB _ w1 _ b1) 6 _ rfl
    have p7 := boxk w w1 _ _ (boxB _ w1 _ b1) 7 _ rfl
    have p8 := boxk w w1 _ _ (boxB _ w1 _ b1) 8 _ rfl
    simp only [World.size_alloc] at q0 q1 q2 q3 q4 q5 q6 q7 q8 q9
    have bW := Lib.hid (boxB w w1 _ (boxB _ w1 _ b1))
    clear b1
    go_wp2_with (go_at_call 24; first | (refine (l1In_yes _ _ _ _ (by omega)).mono ?_; rintro e w' ⟨rfl, rfl⟩) | (refine (l1In_no _ _ _ _ (by omega)).mono ?_; rintro e w' ⟨rfl, rfl⟩))
    go_ret
    exact ⟨rfl, bW.out⟩
  by_cases g2 : (1 ≤ p.id ∧ p.id ≤ 999)
  rotate_left
  · refine Calls.mono (R := fun e w' => e = .returned (.bool false) ∧ Below w.heap.size w w') ?_ (fun e w' h => ⟨by rw [h.1, decide_eq_false (fun hh => g2 (hh.2.2.1))], h.2⟩)
    go_enter Tryz.func102, Tryz.ntmps102
    go_wp2_with fail
    refine CR.out.mono ?_
    rintro e w1 ⟨rfl, b1⟩
    have q0 := boxk _ w1 _ _ b1 0 _ rfl
    have q1 := boxk _ w1 _ _ b1 1 _ rfl
    have q2 := boxk _ w1 _ _ b1 2 _ rfl
    have q3 := boxk _ w1 _ _ b1 3 _ rfl
    have q4 := boxk _ w1 _ _ b1 4 _ rfl
    have q5 := boxk _ w1 _ _ b1 5 _ rfl
    have q6 := boxk _ w1 _ _ b1 6 _ rfl
    have q7 := boxk _ w1 _ _ b1 7 _ rfl
    have q8 := boxk _ w1 _ _ b1 8 _ rfl
    have q9 := boxk _ w1 _ _ b1 9 _ rfl
    have p0 := boxk w w1 _ _ (boxB _ w1 _ b1) 0 _ rfl
    have p1 := boxk w w1 _ _ (boxB _ w1 _ b1) 1 _ rfl
    have p2 := boxk w w1 _ _ (boxB _ w1 _ b1) 2 _ rfl
    have p3 := boxk w w1 _ _ (boxB _ w1 _ b1) 3 _ rfl
    have p4 := boxk w w1 _ _ (boxB _ w1 _ b1) 4 _ rfl
    have p5 := boxk w w1 _ _ (boxB _ w1 _ b1) 5 _ rfl
    have p6 := boxk w w1 _ _ (boxB _ w1 _ b1) 6 _ rfl
    have p7 := boxk w w1 _ _ (boxB _ w1 _ b1) 7 _ rfl
    have p8 := boxk w w1 _ _ (boxB _ w1 _ b1) 8 _ rfl
    simp only [World.size_alloc] at q0 q1 q2 q3 q4 q5 q6 q7 q8 q9
    have bW := Lib.hid (boxB w w1 _ (boxB _ w1 _ b1))
    clear b1
    go_wp2_with (go_at_call 24; first | (refine (l1In_yes _ _ _ _ (by omega)).mono ?_; rintro e w' ⟨rfl, rfl⟩) | (refine (l1In_no _ _ _ _ (by omega)).mono ?_; rintro e w' ⟨rfl, rfl⟩))
    go_ret
    exact ⟨rfl, bW.out⟩
  by_cases g3 : (0 ≤ p.cabin ∧ p.cabin ≤ (r.seats.length : Int) - 1)
  rotate_left
  · refine Calls.mono (R := fun e w' => e = .returned (.bool false) ∧ Below w.heap.size w w') ?_ (fun e w' h => ⟨by rw [h.1, decide_eq_false (fun hh => g3 (hh.2.2.2.1))], h.2⟩)
    go_enter Tryz.func102, Tryz.ntmps102
    go_wp2_with fail
    refine CR.out.mono ?_
    rintro e w1 ⟨rfl, b1⟩
    have q0 := boxk _ w1 _ _ b1 0 _ rfl
    have q1 := boxk _ w1 _ _ b1 1 _ rfl
    have q2 := boxk _ w1 _ _ b1 2 _ rfl
    have q3 := boxk _ w1 _ _ b1 3 _ rfl
    have q4 := boxk _ w1 _ _ b1 4 _ rfl
    have q5 := boxk _ w1 _ _ b1 5 _ rfl
    have q6 := boxk _ w1 _ _ b1 6 _ rfl
    have q7 := boxk _ w1 _ _ b1 7 _ rfl
    have q8 := boxk _ w1 _ _ b1 8 _ rfl
    have q9 := boxk _ w1 _ _ b1 9 _ rfl
    have p0 := boxk w w1 _ _ (boxB _ w1 _ b1) 0 _ rfl
    have p1 := boxk w w1 _ _ (boxB _ w1 _ b1) 1 _ rfl
    have p2 := boxk w w1 _ _ (boxB _ w1 _ b1) 2 _ rfl
    have p3 := boxk w w1 _ _ (boxB _ w1 _ b1) 3 _ rfl
    have p4 := boxk w w1 _ _ (boxB _ w1 _ b1) 4 _ rfl
    have p5 := boxk w w1 _ _ (boxB _ w1 _ b1) 5 _ rfl
    have p6 := boxk w w1 _ _ (boxB _ w1 _ b1) 6 _ rfl
    have p7 := boxk w w1 _ _ (boxB _ w1 _ b1) 7 _ rfl
    have p8 := boxk w w1 _ _ (boxB _ w1 _ b1) 8 _ rfl
    simp only [World.size_alloc] at q0 q1 q2 q3 q4 q5 q6 q7 q8 q9
    have bW := Lib.hid (boxB w w1 _ (boxB _ w1 _ b1))
    clear b1
    go_wp2_with (go_at_call 24; first | (refine (l1In_yes _ _ _ _ (by omega)).mono ?_; rintro e w' ⟨rfl, rfl⟩) | (refine (l1In_no _ _ _ _ (by omega)).mono ?_; rintro e w' ⟨rfl, rfl⟩))
    go_ret
    exact ⟨rfl, bW.out⟩
  by_cases g4 : (-1 ≤ p.from_ ∧ p.from_ ≤ (r.seats.length : Int) - 1)
  rotate_left
  · refine Calls.mono (R := fun e w' => e = .returned (.bool false) ∧ Below w.heap.size w w') ?_ (fun e w' h => ⟨by rw [h.1, decide_eq_false (fun hh => g4 (hh.2.2.2.2.1))], h.2⟩)
    go_enter Tryz.func102, Tryz.ntmps102
    go_wp2_with fail
    refine CR.out.mono ?_
    rintro e w1 ⟨rfl, b1⟩
    have q0 := boxk _ w1 _ _ b1 0 _ rfl
    have q1 := boxk _ w1 _ _ b1 1 _ rfl
    have q2 := boxk _ w1 _ _ b1 2 _ rfl
    have q3 := boxk _ w1 _ _ b1 3 _ rfl
    have q4 := boxk _ w1 _ _ b1 4 _ rfl
    have q5 := boxk _ w1 _ _ b1 5 _ rfl
    have q6 := boxk _ w1 _ _ b1 6 _ rfl
    have q7 := boxk _ w1 _ _ b1 7 _ rfl
    have q8 := boxk _ w1 _ _ b1 8 _ rfl
    have q9 := boxk _ w1 _ _ b1 9 _ rfl
    have p0 := boxk w w1 _ _ (boxB _ w1 _ b1) 0 _ rfl
    have p1 := boxk w w1 _ _ (boxB _ w1 _ b1) 1 _ rfl
    have p2 := boxk w w1 _ _ (boxB _ w1 _ b1) 2 _ rfl
    have p3 := boxk w w1 _ _ (boxB _ w1 _ b1) 3 _ rfl
    have p4 := boxk w w1 _ _ (boxB _ w1 _ b1) 4 _ rfl
    have p5 := boxk w w1 _ _ (boxB _ w1 _ b1) 5 _ rfl
    have p6 := boxk w w1 _ _ (boxB _ w1 _ b1) 6 _ rfl
    have p7 := boxk w w1 _ _ (boxB _ w1 _ b1) 7 _ rfl
    have p8 := boxk w w1 _ _ (boxB _ w1 _ b1) 8 _ rfl
    simp only [World.size_alloc] at q0 q1 q2 q3 q4 q5 q6 q7 q8 q9
    have bW := Lib.hid (boxB w w1 _ (boxB _ w1 _ b1))
    clear b1
    go_wp2_with (go_at_call 24; first | (refine (l1In_yes _ _ _ _ (by omega)).mono ?_; rintro e w' ⟨rfl, rfl⟩) | (refine (l1In_no _ _ _ _ (by omega)).mono ?_; rintro e w' ⟨rfl, rfl⟩))
    go_ret
    exact ⟨rfl, bW.out⟩
  by_cases g5 : ¬ p.from_ = p.cabin
  rotate_left
  · refine Calls.mono (R := fun e w' => e = .returned (.bool false) ∧ Below w.heap.size w w') ?_ (fun e w' h => ⟨by rw [h.1, decide_eq_false (fun hh => g5 (hh.2.2.2.2.2.1))], h.2⟩)
    have e5 : (p.from_ == p.cabin) = true := by simp [Classical.not_not.1 g5]
    go_enter Tryz.func102, Tryz.ntmps102
    go_wp2_with fail
    refine CR.out.mono ?_
    rintro e w1 ⟨rfl, b1⟩
    have q0 := boxk _ w1 _ _ b1 0 _ rfl
    have q1 := boxk _ w1 _ _ b1 1 _ rfl
    have q2 := boxk _ w1 _ _ b1 2 _ rfl
    have q3 := boxk _ w1 _ _ b1 3 _ rfl
    have q4 := boxk _ w1 _ _ b1 4 _ rfl
    have q5 := boxk _ w1 _ _ b1 5 _ rfl
    have q6 := boxk _ w1 _ _ b1 6 _ rfl
    have q7 := boxk _ w1 _ _ b1 7 _ rfl
    have q8 := boxk _ w1 _ _ b1 8 _ rfl
    have q9 := boxk _ w1 _ _ b1 9 _ rfl
    have p0 := boxk w w1 _ _ (boxB _ w1 _ b1) 0 _ rfl
    have p1 := boxk w w1 _ _ (boxB _ w1 _ b1) 1 _ rfl
    have p2 := boxk w w1 _ _ (boxB _ w1 _ b1) 2 _ rfl
    have p3 := boxk w w1 _ _ (boxB _ w1 _ b1) 3 _ rfl
    have p4 := boxk w w1 _ _ (boxB _ w1 _ b1) 4 _ rfl
    have p5 := boxk w w1 _ _ (boxB _ w1 _ b1) 5 _ rfl
    have p6 := boxk w w1 _ _ (boxB _ w1 _ b1) 6 _ rfl
    have p7 := boxk w w1 _ _ (boxB _ w1 _ b1) 7 _ rfl
    have p8 := boxk w w1 _ _ (boxB _ w1 _ b1) 8 _ rfl
    simp only [World.size_alloc] at q0 q1 q2 q3 q4 q5 q6 q7 q8 q9
    have bW := Lib.hid (boxB w w1 _ (boxB _ w1 _ b1))
    clear b1
    go_wp2_with (go_at_call 24; first | (refine (l1In_yes _ _ _ _ (by omega)).mono ?_; rintro e w' ⟨rfl, rfl⟩) | (refine (l1In_no _ _ _ _ (by omega)).mono ?_; rintro e w' ⟨rfl, rfl⟩))
    go_ret
    exact ⟨rfl, bW.out⟩
  have e5 : (p.from_ == p.cabin) = false := by simp [g5]
  by_cases g6 : (1 ≤ p.size ∧ p.size ≤ r.size)
  rotate_left
  · refine Calls.mono (R := fun e w' => e = .returned (.bool false) ∧ Below w.heap.size w w') ?_ (fun e w' h => ⟨by rw [h.1, decide_eq_false (fun hh => g6 (hh.2.2.2.2.2.2.1))], h.2⟩)
    go_enter Tryz.func102, Tryz.ntmps102
    go_wp2_with fail
    refine CR.out.mono ?_
    rintro e w1 ⟨rfl, b1⟩
    have q0 := boxk _ w1 _ _ b1 0 _ rfl
    have q1 := boxk _ w1 _ _ b1 1 _ rfl
    have q2 := boxk _ w1 _ _ b1 2 _ rfl
    have q3 := boxk _ w1 _ _ b1 3 _ rfl
    have q4 := boxk _ w1 _ _ b1 4 _ rfl
    have q5 := boxk _ w1 _ _ b1 5 _ rfl
    have q6 := boxk _ w1 _ _ b1 6 _ rfl
    have q7 := boxk _ w1 _ _ b1 7 _ rfl
    have q8 := boxk _ w1 _ _ b1 8 _ rfl
    have q9 := boxk _ w1 _ _ b1 9 _ rfl
    have p0 := boxk w w1 _ _ (boxB _ w1 _ b1) 0 _ rfl
    have p1 := boxk w w1 _ _ (boxB _ w1 _ b1) 1 _ rfl
    have p2 := boxk w w1 _ _ (boxB _ w1 _ b1) 2 _ rfl
    have p3 := boxk w w1 _ _ (boxB _ w1 _ b1) 3 _ rfl
    have p4 := boxk w w1 _ _ (boxB _ w1 _ b1) 4 _ rfl
    have p5 := boxk w w1 _ _ (boxB _ w1 _ b1) 5 _ rfl
    have p6 := boxk w w1 _ _ (boxB _ w1 _ b1) 6 _ rfl
    have p7 := boxk w w1 _ _ (boxB _ w1 _ b1) 7 _ rfl
    have p8 := boxk w w1 _ _ (boxB _ w1 _ b1) 8 _ rfl
    simp only [World.size_alloc] at q0 q1 q2 q3 q4 q5 q6 q7 q8 q9
    have bW := Lib.hid (boxB w w1 _ (boxB _ w1 _ b1))
    clear b1
    go_wp2_with (go_at_call 24; first | (refine (l1In_yes _ _ _ _ (by omega)).mono ?_; rintro e w' ⟨rfl, rfl⟩) | (refine (l1In_no _ _ _ _ (by omega)).mono ?_; rintro e w' ⟨rfl, rfl⟩))
    go_ret
    exact ⟨rfl, bW.out⟩
  by_cases g7 : (0 ≤ p.tier ∧ p.tier ≤ r.tiers - 1)
  rotate_left
  · refine Calls.mono (R := fun e w' => e = .returned (.bool false) ∧ Below w.heap.size w w') ?_ (fun e w' h => ⟨by rw [h.1, decide_eq_false (fun hh => g7 (hh.2.2.2.2.2.2.2.1))], h.2⟩)
    go_enter Tryz.func102, Tryz.ntmps102
    go_wp2_with fail
    refine CR.out.mono ?_
    rintro e w1 ⟨rfl, b1⟩
    have q0 := boxk _ w1 _ _ b1 0 _ rfl
    have q1 := boxk _ w1 _ _ b1 1 _ rfl
    have q2 := boxk _ w1 _ _ b1 2 _ rfl
    have q3 := boxk _ w1 _ _ b1 3 _ rfl
    have q4 := boxk _ w1 _ _ b1 4 _ rfl
    have q5 := boxk _ w1 _ _ b1 5 _ rfl
    have q6 := boxk _ w1 _ _ b1 6 _ rfl
    have q7 := boxk _ w1 _ _ b1 7 _ rfl
    have q8 := boxk _ w1 _ _ b1 8 _ rfl
    have q9 := boxk _ w1 _ _ b1 9 _ rfl
    have p0 := boxk w w1 _ _ (boxB _ w1 _ b1) 0 _ rfl
    have p1 := boxk w w1 _ _ (boxB _ w1 _ b1) 1 _ rfl
    have p2 := boxk w w1 _ _ (boxB _ w1 _ b1) 2 _ rfl
    have p3 := boxk w w1 _ _ (boxB _ w1 _ b1) 3 _ rfl
    have p4 := boxk w w1 _ _ (boxB _ w1 _ b1) 4 _ rfl
    have p5 := boxk w w1 _ _ (boxB _ w1 _ b1) 5 _ rfl
    have p6 := boxk w w1 _ _ (boxB _ w1 _ b1) 6 _ rfl
    have p7 := boxk w w1 _ _ (boxB _ w1 _ b1) 7 _ rfl
    have p8 := boxk w w1 _ _ (boxB _ w1 _ b1) 8 _ rfl
    simp only [World.size_alloc] at q0 q1 q2 q3 q4 q5 q6 q7 q8 q9
    have bW := Lib.hid (boxB w w1 _ (boxB _ w1 _ b1))
    clear b1
    go_wp2_with (go_at_call 24; first | (refine (l1In_yes _ _ _ _ (by omega)).mono ?_; rintro e w' ⟨rfl, rfl⟩) | (refine (l1In_no _ _ _ _ (by omega)).mono ?_; rintro e w' ⟨rfl, rfl⟩))
    go_ret
    exact ⟨rfl, bW.out⟩
  by_cases g8 : (0 ≤ p.since ∧ p.since ≤ now)
  rotate_left
  · refine Calls.mono (R := fun e w' => e = .returned (.bool false) ∧ Below w.heap.size w w') ?_ (fun e w' h => ⟨by rw [h.1, decide_eq_false (fun hh => g8 (hh.2.2.2.2.2.2.2.2.1))], h.2⟩)
    go_enter Tryz.func102, Tryz.ntmps102
    go_wp2_with fail
    refine CR.out.mono ?_
    rintro e w1 ⟨rfl, b1⟩
    have q0 := boxk _ w1 _ _ b1 0 _ rfl
    have q1 := boxk _ w1 _ _ b1 1 _ rfl
    have q2 := boxk _ w1 _ _ b1 2 _ rfl
    have q3 := boxk _ w1 _ _ b1 3 _ rfl
    have q4 := boxk _ w1 _ _ b1 4 _ rfl
    have q5 := boxk _ w1 _ _ b1 5 _ rfl
    have q6 := boxk _ w1 _ _ b1 6 _ rfl
    have q7 := boxk _ w1 _ _ b1 7 _ rfl
    have q8 := boxk _ w1 _ _ b1 8 _ rfl
    have q9 := boxk _ w1 _ _ b1 9 _ rfl
    have p0 := boxk w w1 _ _ (boxB _ w1 _ b1) 0 _ rfl
    have p1 := boxk w w1 _ _ (boxB _ w1 _ b1) 1 _ rfl
    have p2 := boxk w w1 _ _ (boxB _ w1 _ b1) 2 _ rfl
    have p3 := boxk w w1 _ _ (boxB _ w1 _ b1) 3 _ rfl
    have p4 := boxk w w1 _ _ (boxB _ w1 _ b1) 4 _ rfl
    have p5 := boxk w w1 _ _ (boxB _ w1 _ b1) 5 _ rfl
    have p6 := boxk w w1 _ _ (boxB _ w1 _ b1) 6 _ rfl
    have p7 := boxk w w1 _ _ (boxB _ w1 _ b1) 7 _ rfl
    have p8 := boxk w w1 _ _ (boxB _ w1 _ b1) 8 _ rfl
    simp only [World.size_alloc] at q0 q1 q2 q3 q4 q5 q6 q7 q8 q9
    have bW := Lib.hid (boxB w w1 _ (boxB _ w1 _ b1))
    clear b1
    go_wp2_with (go_at_call 24; first | (refine (l1In_yes _ _ _ _ (by omega)).mono ?_; rintro e w' ⟨rfl, rfl⟩) | (refine (l1In_no _ _ _ _ (by omega)).mono ?_; rintro e w' ⟨rfl, rfl⟩))
    go_ret
    exact ⟨rfl, bW.out⟩
  by_cases g9 : (1 ≤ p.turn ∧ p.turn ≤ 1000000)
  rotate_left
  · refine Calls.mono (R := fun e w' => e = .returned (.bool false) ∧ Below w.heap.size w w') ?_ (fun e w' h => ⟨by rw [h.1, decide_eq_false (fun hh => g9 (hh.2.2.2.2.2.2.2.2.2.1))], h.2⟩)
    go_enter Tryz.func102, Tryz.ntmps102
    go_wp2_with fail
    refine CR.out.mono ?_
    rintro e w1 ⟨rfl, b1⟩
    have q0 := boxk _ w1 _ _ b1 0 _ rfl
    have q1 := boxk _ w1 _ _ b1 1 _ rfl
    have q2 := boxk _ w1 _ _ b1 2 _ rfl
    have q3 := boxk _ w1 _ _ b1 3 _ rfl
    have q4 := boxk _ w1 _ _ b1 4 _ rfl
    have q5 := boxk _ w1 _ _ b1 5 _ rfl
    have q6 := boxk _ w1 _ _ b1 6 _ rfl
    have q7 := boxk _ w1 _ _ b1 7 _ rfl
    have q8 := boxk _ w1 _ _ b1 8 _ rfl
    have q9 := boxk _ w1 _ _ b1 9 _ rfl
    have p0 := boxk w w1 _ _ (boxB _ w1 _ b1) 0 _ rfl
    have p1 := boxk w w1 _ _ (boxB _ w1 _ b1) 1 _ rfl
    have p2 := boxk w w1 _ _ (boxB _ w1 _ b1) 2 _ rfl
    have p3 := boxk w w1 _ _ (boxB _ w1 _ b1) 3 _ rfl
    have p4 := boxk w w1 _ _ (boxB _ w1 _ b1) 4 _ rfl
    have p5 := boxk w w1 _ _ (boxB _ w1 _ b1) 5 _ rfl
    have p6 := boxk w w1 _ _ (boxB _ w1 _ b1) 6 _ rfl
    have p7 := boxk w w1 _ _ (boxB _ w1 _ b1) 7 _ rfl
    have p8 := boxk w w1 _ _ (boxB _ w1 _ b1) 8 _ rfl
    simp only [World.size_alloc] at q0 q1 q2 q3 q4 q5 q6 q7 q8 q9
    have bW := Lib.hid (boxB w w1 _ (boxB _ w1 _ b1))
    clear b1
    go_wp2_with (go_at_call 24; first | (refine (l1In_yes _ _ _ _ (by omega)).mono ?_; rintro e w' ⟨rfl, rfl⟩) | (refine (l1In_no _ _ _ _ (by omega)).mono ?_; rintro e w' ⟨rfl, rfl⟩))
    go_ret
    exact ⟨rfl, bW.out⟩
  by_cases g10 : (0 ≤ p.asked ∧ p.asked ≤ r.tries - 1)
  rotate_left
  · refine Calls.mono (R := fun e w' => e = .returned (.bool false) ∧ Below w.heap.size w w') ?_ (fun e w' h => ⟨by rw [h.1, decide_eq_false (fun hh => g10 (hh.2.2.2.2.2.2.2.2.2.2.1))], h.2⟩)
    go_enter Tryz.func102, Tryz.ntmps102
    go_wp2_with fail
    refine CR.out.mono ?_
    rintro e w1 ⟨rfl, b1⟩
    have q0 := boxk _ w1 _ _ b1 0 _ rfl
    have q1 := boxk _ w1 _ _ b1 1 _ rfl
    have q2 := boxk _ w1 _ _ b1 2 _ rfl
    have q3 := boxk _ w1 _ _ b1 3 _ rfl
    have q4 := boxk _ w1 _ _ b1 4 _ rfl
    have q5 := boxk _ w1 _ _ b1 5 _ rfl
    have q6 := boxk _ w1 _ _ b1 6 _ rfl
    have q7 := boxk _ w1 _ _ b1 7 _ rfl
    have q8 := boxk _ w1 _ _ b1 8 _ rfl
    have q9 := boxk _ w1 _ _ b1 9 _ rfl
    have p0 := boxk w w1 _ _ (boxB _ w1 _ b1) 0 _ rfl
    have p1 := boxk w w1 _ _ (boxB _ w1 _ b1) 1 _ rfl
    have p2 := boxk w w1 _ _ (boxB _ w1 _ b1) 2 _ rfl
    have p3 := boxk w w1 _ _ (boxB _ w1 _ b1) 3 _ rfl
    have p4 := boxk w w1 _ _ (boxB _ w1 _ b1) 4 _ rfl
    have p5 := boxk w w1 _ _ (boxB _ w1 _ b1) 5 _ rfl
    have p6 := boxk w w1 _ _ (boxB _ w1 _ b1) 6 _ rfl
    have p7 := boxk w w1 _ _ (boxB _ w1 _ b1) 7 _ rfl
    have p8 := boxk w w1 _ _ (boxB _ w1 _ b1) 8 _ rfl
    simp only [World.size_alloc] at q0 q1 q2 q3 q4 q5 q6 q7 q8 q9
    have bW := Lib.hid (boxB w w1 _ (boxB _ w1 _ b1))
    clear b1
    go_wp2_with (go_at_call 24; first | (refine (l1In_yes _ _ _ _ (by omega)).mono ?_; rintro e w' ⟨rfl, rfl⟩) | (refine (l1In_no _ _ _ _ (by omega)).mono ?_; rintro e w' ⟨rfl, rfl⟩))
    go_ret
    exact ⟨rfl, bW.out⟩
  by_cases k1 : p.state = 1
  · have e1 : (p.state == 1) = true := by simp [k1]
    have e2 : (p.state == 2) = false := by simp [k1]
    by_cases k2 : (0 ≤ p.until_ ∧ p.until_ ≤ now + r.rest)
    · refine Calls.mono (R := fun e w' => e = .returned (.bool true) ∧ Below w.heap.size w w') ?_ (fun e w' h => ⟨by rw [h.1, decide_eq_true ⟨HF.out, g1, g2, g3, g4, g5, g6, g7, g8, g9, g10, .inl ⟨k1, k2⟩⟩], h.2⟩)
      clear k1
      go_enter Tryz.func102, Tryz.ntmps102
      go_wp2_with fail
      refine CR.out.mono ?_
      rintro e w1 ⟨rfl, b1⟩
      have q0 := boxk _ w1 _ _ b1 0 _ rfl
      have q1 := boxk _ w1 _ _ b1 1 _ rfl
      have q2 := boxk _ w1 _ _ b1 2 _ rfl
      have q3 := boxk _ w1 _ _ b1 3 _ rfl
      have q4 := boxk _ w1 _ _ b1 4 _ rfl
      have q5 := boxk _ w1 _ _ b1 5 _ rfl
      have q6 := boxk _ w1 _ _ b1 6 _ rfl
      have q7 := boxk _ w1 _ _ b1 7 _ rfl
      have q8 := boxk _ w1 _ _ b1 8 _ rfl
      have q9 := boxk _ w1 _ _ b1 9 _ rfl
      have p0 := boxk w w1 _ _ (boxB _ w1 _ b1) 0 _ rfl
      have p1 := boxk w w1 _ _ (boxB _ w1 _ b1) 1 _ rfl
      have p2 := boxk w w1 _ _ (boxB _ w1 _ b1) 2 _ rfl
      have p3 := boxk w w1 _ _ (boxB _ w1 _ b1) 3 _ rfl
      have p4 := boxk w w1 _ _ (boxB _ w1 _ b1) 4 _ rfl
      have p5 := boxk w w1 _ _ (boxB _ w1 _ b1) 5 _ rfl
      have p6 := boxk w w1 _ _ (boxB _ w1 _ b1) 6 _ rfl
      have p7 := boxk w w1 _ _ (boxB _ w1 _ b1) 7 _ rfl
      have p8 := boxk w w1 _ _ (boxB _ w1 _ b1) 8 _ rfl
      simp only [World.size_alloc] at q0 q1 q2 q3 q4 q5 q6 q7 q8 q9
      have bW := Lib.hid (boxB w w1 _ (boxB _ w1 _ b1))
      clear b1
      go_wp2_with (go_at_call 24; first | (refine (l1In_yes _ _ _ _ (by omega)).mono ?_; rintro e w' ⟨rfl, rfl⟩) | (refine (l1In_no _ _ _ _ (by omega)).mono ?_; rintro e w' ⟨rfl, rfl⟩))
      go_ret
      exact ⟨rfl, bW.out⟩
    · refine Calls.mono (R := fun e w' => e = .returned (.bool false) ∧ Below w.heap.size w w') ?_ (fun e w' h => ⟨by rw [h.1, decide_eq_false (fun hh => by rcases hh.2.2.2.2.2.2.2.2.2.2.2 with ⟨a1, a2⟩ | ⟨a1, a2⟩ <;> first | exact k2 a2 | omega)], h.2⟩)
      clear k1
      go_enter Tryz.func102, Tryz.ntmps102
      go_wp2_with fail
      refine CR.out.mono ?_
      rintro e w1 ⟨rfl, b1⟩
      have q0 := boxk _ w1 _ _ b1 0 _ rfl
      have q1 := boxk _ w1 _ _ b1 1 _ rfl
      have q2 := boxk _ w1 _ _ b1 2 _ rfl
      have q3 := boxk _ w1 _ _ b1 3 _ rfl
      have q4 := boxk _ w1 _ _ b1 4 _ rfl
      have q5 := boxk _ w1 _ _ b1 5 _ rfl
      have q6 := boxk _ w1 _ _ b1 6 _ rfl
      have q7 := boxk _ w1 _ _ b1 7 _ rfl
      have q8 := boxk _ w1 _ _ b1 8 _ rfl
      have q9 := boxk _ w1 _ _ b1 9 _ rfl
      have p0 := boxk w w1 _ _ (boxB _ w1 _ b1) 0 _ rfl
      have p1 := boxk w w1 _ _ (boxB _ w1 _ b1) 1 _ rfl
      have p2 := boxk w w1 _ _ (boxB _ w1 _ b1) 2 _ rfl
      have p3 := boxk w w1 _ _ (boxB _ w1 _ b1) 3 _ rfl
      have p4 := boxk w w1 _ _ (boxB _ w1 _ b1) 4 _ rfl
      have p5 := boxk w w1 _ _ (boxB _ w1 _ b1) 5 _ rfl
      have p6 := boxk w w1 _ _ (boxB _ w1 _ b1) 6 _ rfl
      have p7 := boxk w w1 _ _ (boxB _ w1 _ b1) 7 _ rfl
      have p8 := boxk w w1 _ _ (boxB _ w1 _ b1) 8 _ rfl
      simp only [World.size_alloc] at q0 q1 q2 q3 q4 q5 q6 q7 q8 q9
      have bW := Lib.hid (boxB w w1 _ (boxB _ w1 _ b1))
      clear b1
      go_wp2_with (go_at_call 24; first | (refine (l1In_yes _ _ _ _ (by omega)).mono ?_; rintro e w' ⟨rfl, rfl⟩) | (refine (l1In_no _ _ _ _ (by omega)).mono ?_; rintro e w' ⟨rfl, rfl⟩))
      go_ret
      exact ⟨rfl, bW.out⟩
  have e1 : (p.state == 1) = false := by simp [k1]
  by_cases k3 : p.state = 2
  · have e2 : (p.state == 2) = true := by simp [k3]
    by_cases k2 : (1 ≤ p.until_ ∧ p.until_ ≤ now + r.window)
    · refine Calls.mono (R := fun e w' => e = .returned (.bool true) ∧ Below w.heap.size w w') ?_ (fun e w' h => ⟨by rw [h.1, decide_eq_true ⟨HF.out, g1, g2, g3, g4, g5, g6, g7, g8, g9, g10, .inr ⟨k3, k2⟩⟩], h.2⟩)
      clear k1 k3
      go_enter Tryz.func102, Tryz.ntmps102
      go_wp2_with fail
      refine CR.out.mono ?_
      rintro e w1 ⟨rfl, b1⟩
      have q0 := boxk _ w1 _ _ b1 0 _ rfl
      have q1 := boxk _ w1 _ _ b1 1 _ rfl
      have q2 := boxk _ w1 _ _ b1 2 _ rfl
      have q3 := boxk _ w1 _ _ b1 3 _ rfl
      have q4 := boxk _ w1 _ _ b1 4 _ rfl
      have q5 := boxk _ w1 _ _ b1 5 _ rfl
      have q6 := boxk _ w1 _ _ b1 6 _ rfl
      have q7 := boxk _ w1 _ _ b1 7 _ rfl
      have q8 := boxk _ w1 _ _ b1 8 _ rfl
      have q9 := boxk _ w1 _ _ b1 9 _ rfl
      have p0 := boxk w w1 _ _ (boxB _ w1 _ b1) 0 _ rfl
      have p1 := boxk w w1 _ _ (boxB _ w1 _ b1) 1 _ rfl
      have p2 := boxk w w1 _ _ (boxB _ w1 _ b1) 2 _ rfl
      have p3 := boxk w w1 _ _ (boxB _ w1 _ b1) 3 _ rfl
      have p4 := boxk w w1 _ _ (boxB _ w1 _ b1) 4 _ rfl
      have p5 := boxk w w1 _ _ (boxB _ w1 _ b1) 5 _ rfl
      have p6 := boxk w w1 _ _ (boxB _ w1 _ b1) 6 _ rfl
      have p7 := boxk w w1 _ _ (boxB _ w1 _ b1) 7 _ rfl
      have p8 := boxk w w1 _ _ (boxB _ w1 _ b1) 8 _ rfl
      simp only [World.size_alloc] at q0 q1 q2 q3 q4 q5 q6 q7 q8 q9
      have bW := Lib.hid (boxB w w1 _ (boxB _ w1 _ b1))
      clear b1
      go_wp2_with (go_at_call 24; first | (refine (l1In_yes _ _ _ _ (by omega)).mono ?_; rintro e w' ⟨rfl, rfl⟩) | (refine (l1In_no _ _ _ _ (by omega)).mono ?_; rintro e w' ⟨rfl, rfl⟩))
      go_ret
      exact ⟨rfl, bW.out⟩
    · refine Calls.mono (R := fun e w' => e = .returned (.bool false) ∧ Below w.heap.size w w') ?_ (fun e w' h => ⟨by rw [h.1, decide_eq_false (fun hh => by rcases hh.2.2.2.2.2.2.2.2.2.2.2 with ⟨a1, a2⟩ | ⟨a1, a2⟩ <;> first | exact k2 a2 | omega)], h.2⟩)
      clear k1 k3
      go_enter Tryz.func102, Tryz.ntmps102
      go_wp2_with fail
      refine CR.out.mono ?_
      rintro e w1 ⟨rfl, b1⟩
      have q0 := boxk _ w1 _ _ b1 0 _ rfl
      have q1 := boxk _ w1 _ _ b1 1 _ rfl
      have q2 := boxk _ w1 _ _ b1 2 _ rfl
      have q3 := boxk _ w1 _ _ b1 3 _ rfl
      have q4 := boxk _ w1 _ _ b1 4 _ rfl
      have q5 := boxk _ w1 _ _ b1 5 _ rfl
      have q6 := boxk _ w1 _ _ b1 6 _ rfl
      have q7 := boxk _ w1 _ _ b1 7 _ rfl
      have q8 := boxk _ w1 _ _ b1 8 _ rfl
      have q9 := boxk _ w1 _ _ b1 9 _ rfl
      have p0 := boxk w w1 _ _ (boxB _ w1 _ b1) 0 _ rfl
      have p1 := boxk w w1 _ _ (boxB _ w1 _ b1) 1 _ rfl
      have p2 := boxk w w1 _ _ (boxB _ w1 _ b1) 2 _ rfl
      have p3 := boxk w w1 _ _ (boxB _ w1 _ b1) 3 _ rfl
      have p4 := boxk w w1 _ _ (boxB _ w1 _ b1) 4 _ rfl
      have p5 := boxk w w1 _ _ (boxB _ w1 _ b1) 5 _ rfl
      have p6 := boxk w w1 _ _ (boxB _ w1 _ b1) 6 _ rfl
      have p7 := boxk w w1 _ _ (boxB _ w1 _ b1) 7 _ rfl
      have p8 := boxk w w1 _ _ (boxB _ w1 _ b1) 8 _ rfl
      simp only [World.size_alloc] at q0 q1 q2 q3 q4 q5 q6 q7 q8 q9
      have bW := Lib.hid (boxB w w1 _ (boxB _ w1 _ b1))
      clear b1
      go_wp2_with (go_at_call 24; first | (refine (l1In_yes _ _ _ _ (by omega)).mono ?_; rintro e w' ⟨rfl, rfl⟩) | (refine (l1In_no _ _ _ _ (by omega)).mono ?_; rintro e w' ⟨rfl, rfl⟩))
      go_ret
      exact ⟨rfl, bW.out⟩
  have e2 : (p.state == 2) = false := by simp [k3]
  refine Calls.mono (R := fun e w' => e = .returned (.bool false) ∧ Below w.heap.size w w') ?_ (fun e w' h => ⟨by rw [h.1, decide_eq_false (fun hh => by rcases hh.2.2.2.2.2.2.2.2.2.2.2 with ⟨a1, a2⟩ | ⟨a1, a2⟩ <;> first | exact k1 a1 | exact k3 a1)], h.2⟩)
  clear k1 k3
  go_enter Tryz.func102, Tryz.ntmps102
  go_wp2_with fail
  refine CR.out.mono ?_
  rintro e w1 ⟨rfl, b1⟩
  have q0 := boxk _ w1 _ _ b1 0 _ rfl
  have q1 := boxk _ w1 _ _ b1 1 _ rfl
  have q2 := boxk _ w1 _ _ b1 2 _ rfl
  have q3 := boxk _ w1 _ _ b1 3 _ rfl
  have q4 := boxk _ w1 _ _ b1 4 _ rfl
  have q5 := boxk _ w1 _ _ b1 5 _ rfl
  have q6 := boxk _ w1 _ _ b1 6 _ rfl
  have q7 := boxk _ w1 _ _ b1 7 _ rfl
  have q8 := boxk _ w1 _ _ b1 8 _ rfl
  have q9 := boxk _ w1 _ _ b1 9 _ rfl
  have p0 := boxk w w1 _ _ (boxB _ w1 _ b1) 0 _ rfl
  have p1 := boxk w w1 _ _ (boxB _ w1 _ b1) 1 _ rfl
  have p2 := boxk w w1 _ _ (boxB _ w1 _ b1) 2 _ rfl
  have p3 := boxk w w1 _ _ (boxB _ w1 _ b1) 3 _ rfl
  have p4 := boxk w w1 _ _ (boxB _ w1 _ b1) 4 _ rfl
  have p5 := boxk w w1 _ _ (boxB _ w1 _ b1) 5 _ rfl
  have p6 := boxk w w1 _ _ (boxB _ w1 _ b1) 6 _ rfl
  have p7 := boxk w w1 _ _ (boxB _ w1 _ b1) 7 _ rfl
  have p8 := boxk w w1 _ _ (boxB _ w1 _ b1) 8 _ rfl
  simp only [World.size_alloc] at q0 q1 q2 q3 q4 q5 q6 q7 q8 q9
  have bW := Lib.hid (boxB w w1 _ (boxB _ w1 _ b1))
  clear b1
  go_wp2_with (go_at_call 24; first | (refine (l1In_yes _ _ _ _ (by omega)).mono ?_; rintro e w' ⟨rfl, rfl⟩) | (refine (l1In_no _ _ _ _ (by omega)).mono ?_; rintro e w' ⟨rfl, rfl⟩))
  go_ret
  exact ⟨rfl, bW.out⟩
/-- What LevelOf returns. -/
def levelOfV (r : Ru) (p : Pt) (now : Int) : Int := if Pt.fine r p now then levN r p.tier (now - p.since) else -1
set_option maxRecDepth 100000 in
set_option maxHeartbeats 1600000 in
theorem levelOf_spec (A : Option Addr) (c : Nat) (r : Ru) (p : Pt) (now : Int) (w : World) (hg : r.go) (hA : Rws w w.heap.size A (ints r.seats)) :
    Calls Tryz.prog 92 #[ruV A c r, ptA p, .int .i64 now] w fun e w' => e = .returned (.int .i64 (levelOfV r p now)) ∧ Below w.heap.size w w' := by
  have b0 : Below w.heap.size w ((w.alloc (.cells #[.slice A r.seats.length c, .int .i64 r.tiers, .int .i64 r.room, .int .i64 r.size, .int .i64 r.period, .int .i64 r.window, .int .i64 r.rest, .int .i64 r.tries, .int .i64 r.crew] 34)).alloc (.cells #[.int .i64 p.id, .int .i64 p.cabin, .int .i64 p.from_, .int .i64 p.size, .int .i64 p.tier, .int .i64 p.since, .int .i64 p.turn, .int .i64 p.state, .int .i64 p.until_, .int .i64 p.asked] 26)) := ((Below.refl _ _).alloc (Nat.le_refl _) _).alloc (by simp) _
  have CR := Lib.hid (partyOk_spec A c r p now ((w.alloc (.cells #[.slice A r.seats.length c, .int .i64 r.tiers, .int .i64 r.room, .int .i64 r.size, .int .i64 r.period, .int .i64 r.window, .int .i64 r.rest, .int .i64 r.tries, .int .i64 r.crew] 34)).alloc (.cells #[.int .i64 p.id, .int .i64 p.cabin, .int .i64 p.from_, .int .i64 p.size, .int .i64 p.tier, .int .i64 p.since, .int .i64 p.turn, .int .i64 p.state, .int .i64 p.until_, .int .i64 p.asked] 26)) hg (rws_below hA b0))
  clear b0
  by_cases hf : Pt.fine r p now
  rotate_left
  · have HV : Hid (levelOfV r p now = -1) := by show _ = _; unfold levelOfV; rw [if_neg hf]
    rw [decide_eq_false hf] at CR
    unfold ruV ptA at CR
    unfold ruV ptA
    go_enter Tryz.func92, Tryz.ntmps92
    go_wp2_with fail
    refine CR.out.mono ?_
    rintro e w1 ⟨rfl, b1⟩
    have bW := Lib.hid (boxB w w1 _ (boxB _ w1 _ b1))
    clear b1
    go_wp2
    go_ret
    exact ⟨by rw [HV.out] <;> rfl, bW.out⟩
  have HV : Hid (levelOfV r p now = levN r p.tier (now - p.since)) := by show _ = _; unfold levelOfV; rw [if_pos hf]
  rw [decide_eq_true hf] at CR
  obtain ⟨⟨⟨_, ⟨t1, t2⟩, _, _, pe⟩, _⟩, ⟨n1, n2⟩, _, _, _, _, _, ⟨ti1, ti2⟩, ⟨si1, si2⟩, _⟩ := hf
  have CL := Lib.hid (fun w => level1_spec A c r p.tier (now - p.since) w pe (by omega) (by omega))
  clear pe
  unfold ruV at CL
  unfold ruV ptA at CR
  unfold ruV ptA
  go_enter Tryz.func92, Tryz.ntmps92
  go_wp2_with fail
  refine CR.out.mono ?_
  rintro e w1 ⟨rfl, b1⟩
  have q0 := boxk _ w1 _ _ b1 0 _ rfl
  have q1 := boxk _ w1 _ _ b1 1 _ rfl
  have q2 := boxk _ w1 _ _ b1 2 _ rfl
  have q3 := boxk _ w1 _ _ b1 3 _ rfl
  have q4 := boxk _ w1 _ _ b1 4 _ rfl
  have q5 := boxk _ w1 _ _ b1 5 _ rfl
  have q6 := boxk _ w1 _ _ b1 6 _ rfl
  have q7 := boxk _ w1 _ _ b1 7 _ rfl
  have q8 := boxk _ w1 _ _ b1 8 _ rfl
  have q9 := boxk _ w1 _ _ b1 9 _ rfl
  have p0 := boxk w w1 _ _ (boxB _ w1 _ b1) 0 _ rfl
  have p1 := boxk w w1 _ _ (boxB _ w1 _ b1) 1 _ rfl
  have p2 := boxk w w1 _ _ (boxB _ w1 _ b1) 2 _ rfl
  have p3 := boxk w w1 _ _ (boxB _ w1 _ b1) 3 _ rfl
  have p4 := boxk w w1 _ _ (boxB _ w1 _ b1) 4 _ rfl
  have p5 := boxk w w1 _ _ (boxB _ w1 _ b1) 5 _ rfl
  have p6 := boxk w w1 _ _ (boxB _ w1 _ b1) 6 _ rfl
  have p7 := boxk w w1 _ _ (boxB _ w1 _ b1) 7 _ rfl
  have p8 := boxk w w1 _ _ (boxB _ w1 _ b1) 8 _ rfl
  simp only [World.size_alloc] at q0 q1 q2 q3 q4 q5 q6 q7 q8 q9
  have bW := Lib.hid (boxB w w1 _ (boxB _ w1 _ b1))
  clear b1
  go_wp2_with fail
  refine (CL.out _).mono ?_
  rintro e w2 ⟨rfl, b2⟩
  have bF := Lib.hid (bW.out.trans (b2.mono bW.out.size))
  clear b2 CL
  generalize levN r p.tier (now - p.since) = L at HV
  go_wp2
  go_ret
  exact ⟨by rw [HV.out] <;> rfl, bF.out⟩
end Go.Proofs.YtlflgflmlfileaaGreat
