/- EntryOf, LedgerOk, LedgerNew of the model. -/
import Derived.Test.YtlflgflmlfileaaGreatRows
import Derived.Test.YtlflgflmlfileaaGreatHs5
namespace Go.Proofs.YtlflgflmlfileaaGreat
open Go.RowKit
set_option linter.unusedSimpArgs false
set_option linter.unusedVariables false
/-- What EntryOf returns. -/
def entryOfV (r : Ru) (p : Pt) (now : Int) : En × Bool := if levelOfV r p now < 0 ∨ p.state ≠ 1 then (en0, false) else (⟨levelOfV r p now, p.turn, p.id, p.size⟩, true)
set_option maxRecDepth 100000 in
set_option maxHeartbeats 1600000 in
theorem entryOf_spec (A : Option Addr) (c : Nat) (r : Ru) (p : Pt) (now : Int) (w : World) (hg : r.go) (hA : Rws w w.heap.size A (ints r.seats)) :
    Calls Tryz.prog 74 #[ruV A c r, ptA p, .int .i64 now] w fun e w' => e = .returned (.tuple #[enA (entryOfV r p now).1, .bool (entryOfV r p now).2]) ∧ Below w.heap.size w w' := by
  have b0 : Below w.heap.size w (((w.alloc (.cells #[.slice A r.seats.length c, .int .i64 r.tiers, .int .i64 r.room, .int .i64 r.size, .int .i64 r.period, .int .i64 r.window, .int .i64 r.rest, .int .i64 r.tries, .int .i64 r.crew] 34)).alloc (.cells #[.int .i64 p.id, .int .i64 p.cabin, .int .i64 p.from_, .int .i64 p.size, .int .i64 p.tier, .int .i64 p.since, .int .i64 p.turn, .int .i64 p.state, .int .i64 p.until_, .int .i64 p.asked] 26)).alloc (.cells #[.int .i64 0, .int .i64 0, .int .i64 0, .int .i64 0] 100)) := (((Below.refl _ _).alloc (Nat.le_refl _) _).alloc (by simp) _).alloc (by simp; omega) _
  have CR := Lib.hid (levelOf_spec A c r p now (((w.alloc (.cells #[.slice A r.seats.length c, .int .i64 r.tiers, .int .i64 r.room, .int .i64 r.size, .int .i64 r.period, .int .i64 r.window, .int .i64 r.rest, .int .i64 r.tries, .int .i64 r.crew] 34)).alloc (.cells #[.int .i64 p.id, .int .i64 p.cabin, .int .i64 p.from_, .int .i64 p.size, .int .i64 p.tier, .int .i64 p.since, .int .i64 p.turn, .int .i64 p.state, .int .i64 p.until_, .int .i64 p.asked] 26)).alloc (.cells #[.int .i64 0, .int .i64 0, .int .i64 0, .int .i64 0] 100)) hg (rws_below hA b0))
  clear b0
  obtain ⟨R, hR⟩ : ∃ R : Value, .tuple #[enA (entryOfV r p now).1, .bool (entryOfV r p now).2] = R := ⟨_, rfl⟩
  rw [hR]
  unfold entryOfV at hR
  generalize levelOfV r p now = L at *
  unfold ruV ptA at CR
  unfold ruV ptA
  by_cases h1 : L < 0
  · have HV : Hid (R = .tuple #[enA en0, .bool false]) := by show _ = _; rw [← hR, if_pos (.inl h1)]
    clear hR
    go_enter Tryz.func74, Tryz.ntmps74
    have T0 := Three.make w (.cells #[.slice A r.seats.length c, .int .i64 r.tiers, .int .i64 r.room, .int .i64 r.size, .int .i64 r.period, .int .i64 r.window, .int .i64 r.rest, .int .i64 r.tries, .int .i64 r.crew] 34) (.cells #[.int .i64 p.id, .int .i64 p.cabin, .int .i64 p.from_, .int .i64 p.size, .int .i64 p.tier, .int .i64 p.since, .int .i64 p.turn, .int .i64 p.state, .int .i64 p.until_, .int .i64 p.asked] 26) (.cells #[.int .i64 0, .int .i64 0, .int .i64 0, .int .i64 0] 100)
    have HT := Lib.hid T0
    clear T0
    go_wp2_with fail
    refine CR.out.mono ?_
    rintro e w1 ⟨rfl, b1⟩
    have T1 := Three.call HT.out b1
    clear b1 HT
    have p0 := cell_of_row _ _ 0 _ _ _ T1.2.1
    have p1 := cell_of_row _ _ 1 _ _ _ T1.2.1
    have p2 := cell_of_row _ _ 2 _ _ _ T1.2.1
    have p3 := cell_of_row _ _ 3 _ _ _ T1.2.1
    have p4 := cell_of_row _ _ 4 _ _ _ T1.2.1
    have p5 := cell_of_row _ _ 5 _ _ _ T1.2.1
    have p6 := cell_of_row _ _ 6 _ _ _ T1.2.1
    have p7 := cell_of_row _ _ 7 _ _ _ T1.2.1
    have p8 := cell_of_row _ _ 8 _ _ _ T1.2.1
    have p9 := cell_of_row _ _ 9 _ _ _ T1.2.1
    simp at p0 p1 p2 p3 p4 p5 p6 p7 p8 p9
    have c0 := cell_of_row _ _ 0 _ _ _ T1.2.2.1
    have c1 := cell_of_row _ _ 1 _ _ _ T1.2.2.1
    have c2 := cell_of_row _ _ 2 _ _ _ T1.2.2.1
    have c3 := cell_of_row _ _ 3 _ _ _ T1.2.2.1
    have d0 := frozen_of_row _ _ 0 _ _ T1.2.2.1
    have d1 := frozen_of_row _ _ 1 _ _ T1.2.2.1
    have d2 := frozen_of_row _ _ 2 _ _ T1.2.2.1
    have d3 := frozen_of_row _ _ 3 _ _ T1.2.2.1
    simp at c0 c1 c2 c3
    have bW := Lib.hid T1.2.2.2
    clear T1 CR
    go_wp2
    simp [bodyPost, results, Tryz.results74, go_sem, c0, c1, c2, c3]
    exact ⟨by rw [HV.out] <;> rfl, (((bW.out.setCell (by simp <;> omega) _).setCell (by simp <;> omega) _).setCell (by simp <;> omega) _).setCell (by simp <;> omega) _⟩
  have h1' : decide (L < 0) = false := by simpa using h1
  by_cases h2 : p.state = 1
  rotate_left
  · have HV : Hid (R = .tuple #[enA en0, .bool false]) := by show _ = _; rw [← hR, if_pos (.inr h2)]
    have h2' : (p.state != 1) = true := by simp [h2]
    clear hR
    go_enter Tryz.func74, Tryz.ntmps74
    have T0 := Three.make w (.cells #[.slice A r.seats.length c, .int .i64 r.tiers, .int .i64 r.room, .int .i64 r.size, .int .i64 r.period, .int .i64 r.window, .int .i64 r.rest, .int .i64 r.tries, .int .i64 r.crew] 34) (.cells #[.int .i64 p.id, .int .i64 p.cabin, .int .i64 p.from_, .int .i64 p.size, .int .i64 p.tier, .int .i64 p.since, .int .i64 p.turn, .int .i64 p.state, .int .i64 p.until_, .int .i64 p.asked] 26) (.cells #[.int .i64 0, .int .i64 0, .int .i64 0, .int .i64 0] 100)
    have HT := Lib.hid T0
    clear T0
    go_wp2_with fail
    refine CR.out.mono ?_
    rintro e w1 ⟨rfl, b1⟩
    have T1 := Three.call HT.out b1
    clear b1 HT
    have p0 := cell_of_row _ _ 0 _ _ _ T1.2.1
    have p1 := cell_of_row _ _ 1 _ _ _ T1.2.1
    have p2 := cell_of_row _ _ 2 _ _ _ T1.2.1
    have p3 := cell_of_row _ _ 3 _ _ _ T1.2.1
    have p4 := cell_of_row _ _ 4 _ _ _ T1.2.1
    have p5 := cell_of_row _ _ 5 _ _ _ T1.2.1
    have p6 := cell_of_row _ _ 6 _ _ _ T1.2.1
    have p7 := cell_of_row _ _ 7 _ _ _ T1.2.1
    have p8 := cell_of_row _ _ 8 _ _ _ T1.2.1
    have p9 := cell_of_row _ _ 9 _ _ _ T1.2.1
    simp at p0 p1 p2 p3 p4 p5 p6 p7 p8 p9
    have c0 := cell_of_row _ _ 0 _ _ _ T1.2.2.1
    have c1 := cell_of_row _ _ 1 _ _ _ T1.2.2.1
    have c2 := cell_of_row _ _ 2 _ _ _ T1.2.2.1
    have c3 := cell_of_row _ _ 3 _ _ _ T1.2.2.1
    have d0 := frozen_of_row _ _ 0 _ _ T1.2.2.1
    have d1 := frozen_of_row _ _ 1 _ _ T1.2.2.1
    have d2 := frozen_of_row _ _ 2 _ _ T1.2.2.1
    have d3 := frozen_of_row _ _ 3 _ _ T1.2.2.1
    simp at c0 c1 c2 c3
    have bW := Lib.hid T1.2.2.2
    clear T1 CR
    go_wp2
    simp [bodyPost, results, Tryz.results74, go_sem, c0, c1, c2, c3]
    exact ⟨by rw [HV.out] <;> rfl, (((bW.out.setCell (by simp <;> omega) _).setCell (by simp <;> omega) _).setCell (by simp <;> omega) _).setCell (by simp <;> omega) _⟩
  · have HV : Hid (R = .tuple #[enA ⟨L, p.turn, p.id, p.size⟩, .bool true]) := by show _ = _; rw [← hR, if_neg (fun h => h.elim h1 (fun x => x h2))]
    have h2' : (p.state != 1) = false := by simp [h2]
    clear hR h2
    go_enter Tryz.func74, Tryz.ntmps74
    have T0 := Three.make w (.cells #[.slice A r.seats.length c, .int .i64 r.tiers, .int .i64 r.room, .int .i64 r.size, .int .i64 r.period, .int .i64 r.window, .int .i64 r.rest, .int .i64 r.tries, .int .i64 r.crew] 34) (.cells #[.int .i64 p.id, .int .i64 p.cabin, .int .i64 p.from_, .int .i64 p.size, .int .i64 p.tier, .int .i64 p.since, .int .i64 p.turn, .int .i64 p.state, .int .i64 p.until_, .int .i64 p.asked] 26) (.cells #[.int .i64 0, .int .i64 0, .int .i64 0, .int .i64 0] 100)
    have HT := Lib.hid T0
    clear T0
    go_wp2_with fail
    refine CR.out.mono ?_
    rintro e w1 ⟨rfl, b1⟩
    have T1 := Three.call HT.out b1
    clear b1 HT
    have p0 := cell_of_row _ _ 0 _ _ _ T1.2.1
    have p1 := cell_of_row _ _ 1 _ _ _ T1.2.1
    have p2 := cell_of_row _ _ 2 _ _ _ T1.2.1
    have p3 := cell_of_row _ _ 3 _ _ _ T1.2.1
    have p4 := cell_of_row _ _ 4 _ _ _ T1.2.1
    have p5 := cell_of_row _ _ 5 _ _ _ T1.2.1
    have p6 := cell_of_row _ _ 6 _ _ _ T1.2.1
    have p7 := cell_of_row _ _ 7 _ _ _ T1.2.1
    have p8 := cell_of_row _ _ 8 _ _ _ T1.2.1
    have p9 := cell_of_row _ _ 9 _ _ _ T1.2.1
    simp at p0 p1 p2 p3 p4 p5 p6 p7 p8 p9
    have c0 := cell_of_row _ _ 0 _ _ _ T1.2.2.1
    have c1 := cell_of_row _ _ 1 _ _ _ T1.2.2.1
    have c2 := cell_of_row _ _ 2 _ _ _ T1.2.2.1
    have c3 := cell_of_row _ _ 3 _ _ _ T1.2.2.1
    have d0 := frozen_of_row _ _ 0 _ _ T1.2.2.1
    have d1 := frozen_of_row _ _ 1 _ _ T1.2.2.1
    have d2 := frozen_of_row _ _ 2 _ _ T1.2.2.1
    have d3 := frozen_of_row _ _ 3 _ _ T1.2.2.1
    simp at c0 c1 c2 c3
    have bW := Lib.hid T1.2.2.2
    clear T1 CR
    go_wp2
    simp [bodyPost, results, Tryz.results74, go_sem, c0, c1, c2, c3]
    exact ⟨by rw [HV.out] <;> rfl, (((bW.out.setCell (by simp <;> omega) _).setCell (by simp <;> omega) _).setCell (by simp <;> omega) _).setCell (by simp <;> omega) _⟩
/-- What LedgerOk tells. -/
def Le.fine (l : Le) : Prop := (1 ≤ l.total ∧ l.total ≤ 60) ∧ (0 ≤ l.free ∧ l.free ≤ l.total) ∧ (0 ≤ l.held ∧ l.held ≤ l.total) ∧ (0 ≤ l.sold ∧ l.sold ≤ l.total) ∧ l.free + l.held + l.sold = l.total ∧ (0 ≤ l.tied ∧ l.tied ≤ l.sold)
instance (l : Le) : Decidable l.fine := by unfold Le.fine; infer_instance
set_option maxRecDepth 100000 in
set_option maxHeartbeats 1600000 in
theorem ledgerOk_spec (l : Le) (w : World) : Calls Tryz.prog 89 #[leA l] w fun e w' => e = .returned (.bool (decide l.fine)) ∧ Below w.heap.size w w' := by
  have b0 : Hid (Below w.heap.size w (w.alloc (.cells #[.int .i64 l.total, .int .i64 l.free, .int .i64 l.held, .int .i64 l.sold, .int .i64 l.tied] 53))) := (Below.refl _ _).alloc (Nat.le_refl _) _
  unfold leA
  by_cases g0 : (1 ≤ l.total ∧ l.total ≤ 60)
  rotate_left
  · refine Calls.mono (R := fun e w' => e = .returned (.bool false) ∧ Below w.heap.size w w') ?_ (fun e w' h => ⟨by rw [h.1, decide_eq_false (fun hh => g0 (hh.1))], h.2⟩)
    go_enter Tryz.func89, Tryz.ntmps89
    go_wp2_with (go_at_call 24; first | (refine (l1In_yes _ _ _ _ (by omega)).mono ?_; rintro e w' ⟨rfl, rfl⟩) | (refine (l1In_no _ _ _ _ (by omega)).mono ?_; rintro e w' ⟨rfl, rfl⟩))
    go_ret
    exact ⟨rfl, b0.out⟩
  by_cases g1 : (0 ≤ l.free ∧ l.free ≤ l.total)
  rotate_left
  · refine Calls.mono (R := fun e w' => e = .returned (.bool false) ∧ Below w.heap.size w w') ?_ (fun e w' h => ⟨by rw [h.1, decide_eq_false (fun hh => g1 (hh.2.1))], h.2⟩)
    go_enter Tryz.func89, Tryz.ntmps89
    go_wp2_with (go_at_call 24; first | (refine (l1In_yes _ _ _ _ (by omega)).mono ?_; rintro e w' ⟨rfl, rfl⟩) | (refine (l1In_no _ _ _ _ (by omega)).mono ?_; rintro e w' ⟨rfl, rfl⟩))
    go_ret
    exact ⟨rfl, b0.out⟩
  by_cases g2 : (0 ≤ l.held ∧ l.held ≤ l.total)
  rotate_left
  · refine Calls.mono (R := fun e w' => e = .returned (.bool false) ∧ Below w.heap.size w w') ?_ (fun e w' h => ⟨by rw [h.1, decide_eq_false (fun hh => g2 (hh.2.2.1))], h.2⟩)
    go_enter Tryz.func89, Tryz.ntmps89
    go_wp2_with (go_at_call 24; first | (refine (l1In_yes _ _ _ _ (by omega)).mono ?_; rintro e w' ⟨rfl, rfl⟩) | (refine (l1In_no _ _ _ _ (by omega)).mono ?_; rintro e w' ⟨rfl, rfl⟩))
    go_ret
    exact ⟨rfl, b0.out⟩
  by_cases g3 : (0 ≤ l.sold ∧ l.sold ≤ l.total)
  rotate_left
  · refine Calls.mono (R := fun e w' => e = .returned (.bool false) ∧ Below w.heap.size w w') ?_ (fun e w' h => ⟨by rw [h.1, decide_eq_false (fun hh => g3 (hh.2.2.2.1))], h.2⟩)
    go_enter Tryz.func89, Tryz.ntmps89
    go_wp2_with (go_at_call 24; first | (refine (l1In_yes _ _ _ _ (by omega)).mono ?_; rintro e w' ⟨rfl, rfl⟩) | (refine (l1In_no _ _ _ _ (by omega)).mono ?_; rintro e w' ⟨rfl, rfl⟩))
    go_ret
    exact ⟨rfl, b0.out⟩
  by_cases g4 : l.free + l.held + l.sold = l.total
  rotate_left
  · refine Calls.mono (R := fun e w' => e = .returned (.bool false) ∧ Below w.heap.size w w') ?_ (fun e w' h => ⟨by rw [h.1, decide_eq_false (fun hh => g4 (hh.2.2.2.2.1))], h.2⟩)
    have e4 : (l.free + l.held + l.sold == l.total) = false := by simp [g4]
    go_enter Tryz.func89, Tryz.ntmps89
    go_wp2_with (go_at_call 24; first | (refine (l1In_yes _ _ _ _ (by omega)).mono ?_; rintro e w' ⟨rfl, rfl⟩) | (refine (l1In_no _ _ _ _ (by omega)).mono ?_; rintro e w' ⟨rfl, rfl⟩))
    go_ret
    exact ⟨rfl, b0.out⟩
  have e4 : (l.free + l.held + l.sold == l.total) = true := by simp [g4]
  by_cases g5 : (0 ≤ l.tied ∧ l.tied ≤ l.sold)
  rotate_left
  · refine Calls.mono (R := fun e w' => e = .returned (.bool false) ∧ Below w.heap.size w w') ?_ (fun e w' h => ⟨by rw [h.1, decide_eq_false (fun hh => g5 (hh.2.2.2.2.2))], h.2⟩)
    go_enter Tryz.func89, Tryz.ntmps89
    go_wp2_with (go_at_call 24; first | (refine (l1In_yes _ _ _ _ (by omega)).mono ?_; rintro e w' ⟨rfl, rfl⟩) | (refine (l1In_no _ _ _ _ (by omega)).mono ?_; rintro e w' ⟨rfl, rfl⟩))
    go_ret
    exact ⟨rfl, b0.out⟩
  refine Calls.mono (R := fun e w' => e = .returned (.bool true) ∧ Below w.heap.size w w') ?_ (fun e w' h => ⟨by rw [h.1, decide_eq_true ⟨g0, g1, g2, g3, g4, g5⟩], h.2⟩)
  go_enter Tryz.func89, Tryz.ntmps89
  go_wp2_with (go_at_call 24; first | (refine (l1In_yes _ _ _ _ (by omega)).mono ?_; rintro e w' ⟨rfl, rfl⟩) | (refine (l1In_no _ _ _ _ (by omega)).mono ?_; rintro e w' ⟨rfl, rfl⟩))
  go_ret
  exact ⟨rfl, b0.out⟩
/-- What LedgerNew returns. -/
def ledgerNewV (t : Int) : Le × Bool := if 1 ≤ t ∧ t ≤ 60 then (⟨t, 0, 0, t, 0⟩, true) else (le0, false)
theorem ledgerNew_fine (t : Int) : Le.fine ⟨t, 0, 0, t, 0⟩ ↔ 1 ≤ t ∧ t ≤ 60 := by
  unfold Le.fine
  constructor
  · intro h; exact h.1
  · intro h; refine ⟨h, ?_, ?_, ?_, ?_, ?_⟩ <;> simp <;> omega
theorem three_setk {w w1 : World} {A B C : Obj} (b : Below w.heap.size w w1) (i : Nat) (k : Nat) (v : Value) : Below w.heap.size w (w1.setCell ⟨w.heap.size + k, i, none⟩ v) := b.setCell (by simp) _
set_option maxRecDepth 100000 in
set_option maxHeartbeats 1600000 in
theorem ledgerNew_spec (t : Int) (w : World) : Calls Tryz.prog 70 #[.int .i64 t] w fun e w' => e = .returned (.tuple #[leA (ledgerNewV t).1, .bool (ledgerNewV t).2]) ∧ Below w.heap.size w w' := by
  have CR := Lib.hid (fun w => ledgerOk_spec ⟨t, 0, 0, t, 0⟩ w)
  unfold leA at CR
  obtain ⟨R, hR⟩ : ∃ R : Value, .tuple #[leA (ledgerNewV t).1, .bool (ledgerNewV t).2] = R := ⟨_, rfl⟩
  rw [hR]
  unfold ledgerNewV at hR
  by_cases h : 1 ≤ t ∧ t ≤ 60
  · have HV : Hid (R = .tuple #[leA ⟨t, 0, 0, t, 0⟩, .bool true]) := by show _ = _; rw [← hR, if_pos h]
    rw [decide_eq_true ((ledgerNew_fine t).2 h)] at CR
    clear hR
    go_enter Tryz.func70, Tryz.ntmps70
    go_wp2_with fail
    refine (CR.out _).mono ?_
    rintro e w1 ⟨rfl, b1⟩
    have T1 := two_at w w1 _ _ b1
    clear b1
    have c0 := cell_of_row _ _ 0 _ _ _ T1.1
    have c1 := cell_of_row _ _ 1 _ _ _ T1.1
    have c2 := cell_of_row _ _ 2 _ _ _ T1.1
    have c3 := cell_of_row _ _ 3 _ _ _ T1.1
    have c4 := cell_of_row _ _ 4 _ _ _ T1.1
    have d0 := frozen_of_row _ _ 0 _ _ T1.1
    have d1 := frozen_of_row _ _ 1 _ _ T1.1
    have d2 := frozen_of_row _ _ 2 _ _ T1.1
    have d3 := frozen_of_row _ _ 3 _ _ T1.1
    have d4 := frozen_of_row _ _ 4 _ _ T1.1
    simp at c0 c1 c2 c3 c4
    have p0 := cell_of_row _ _ 0 _ _ _ T1.2.1
    have p1 := cell_of_row _ _ 1 _ _ _ T1.2.1
    have p2 := cell_of_row _ _ 2 _ _ _ T1.2.1
    have p3 := cell_of_row _ _ 3 _ _ _ T1.2.1
    have p4 := cell_of_row _ _ 4 _ _ _ T1.2.1
    simp at p0 p1 p2 p3 p4
    have bW := Lib.hid T1.2.2
    clear T1 CR
    go_wp2
    simp [bodyPost, results, Tryz.results70, go_sem, c0, c1, c2, c3, c4]
    exact ⟨by rw [HV.out] <;> rfl, ((((bW.out.setCell (by simp <;> omega) _).setCell (by simp <;> omega) _).setCell (by simp <;> omega) _).setCell (by simp <;> omega) _).setCell (by simp <;> omega) _⟩
  · have HV : Hid (R = .tuple #[leA le0, .bool false]) := by show _ = _; rw [← hR, if_neg h]
    rw [decide_eq_false (fun x => h ((ledgerNew_fine t).1 x))] at CR
    clear hR
    go_enter Tryz.func70, Tryz.ntmps70
    go_wp2_with fail
    refine (CR.out _).mono ?_
    rintro e w1 ⟨rfl, b1⟩
    have T1 := two_at w w1 _ _ b1
    clear b1
    have c0 := cell_of_row _ _ 0 _ _ _ T1.1
    have c1 := cell_of_row _ _ 1 _ _ _ T1.1
    have c2 := cell_of_row _ _ 2 _ _ _ T1.1
    have c3 := cell_of_row _ _ 3 _ _ _ T1.1
    have c4 := cell_of_row _ _ 4 _ _ _ T1.1
    have d0 := frozen_of_row _ _ 0 _ _ T1.1
    have d1 := frozen_of_row _ _ 1 _ _ T1.1
    have d2 := frozen_of_row _ _ 2 _ _ T1.1
    have d3 := frozen_of_row _ _ 3 _ _ T1.1
    have d4 := frozen_of_row _ _ 4 _ _ T1.1
    simp at c0 c1 c2 c3 c4
    have p0 := cell_of_row _ _ 0 _ _ _ T1.2.1
    have p1 := cell_of_row _ _ 1 _ _ _ T1.2.1
    have p2 := cell_of_row _ _ 2 _ _ _ T1.2.1
    have p3 := cell_of_row _ _ 3 _ _ _ T1.2.1
    have p4 := cell_of_row _ _ 4 _ _ _ T1.2.1
    simp at p0 p1 p2 p3 p4
    have bW := Lib.hid T1.2.2
    clear T1 CR
    go_wp2
    simp [bodyPost, results, Tryz.results70, go_sem, c0, c1, c2, c3, c4]
    exact ⟨by rw [HV.out] <;> rfl, ((((bW.out.setCell (by simp <;> omega) _).setCell (by simp <;> omega) _).setCell (by simp <;> omega) _).setCell (by simp <;> omega) _).setCell (by simp <;> omega) _⟩
end Go.Proofs.YtlflgflmlfileaaGreat
