/- EntryOf, LedgerOk, LedgerNew of the model. -/
import Derived.Test.YtdjglbmcpfaofaaRows
import Derived.Test.YtdjglbmcpfaofaaHs5
namespace Go.Proofs.Ytdjglbmcpfaofaa
open Go.RowKit
set_option linter.unusedSimpArgs false
set_option linter.unusedVariables false
/-- What EntryOf returns. -/
def entryOfV (r : Ru) (p : Pt) (now : Int) : En × Bool := if levelOfV r p now < 0 ∨ p.state ≠ 1 then (en0, false) else (⟨levelOfV r p now, p.turn, p.id, p.size⟩, true)
/-- What LedgerOk tells. -/
def Le.fine (l : Le) : Prop := (1 ≤ l.total ∧ l.total ≤ 60) ∧ (0 ≤ l.free ∧ l.free ≤ l.total) ∧ (0 ≤ l.held ∧ l.held ≤ l.total) ∧ (0 ≤ l.sold ∧ l.sold ≤ l.total) ∧ l.free + l.held + l.sold = l.total ∧ (0 ≤ l.tied ∧ l.tied ≤ l.sold)
instance (l : Le) : Decidable l.fine := by unfold Le.fine; infer_instance
set_option maxRecDepth 100000 in
set_option maxHeartbeats 1600000 in
theorem ledgerOk_spec (l : Le) (w : World) : Calls Try.prog 62 #[leA l] w fun e w' => e = .returned (.bool (decide l.fine)) ∧ Below w.heap.size w w' := by
  have b0 : Hid (Below w.heap.size w (w.alloc (.cells #[.int .i64 l.total, .int .i64 l.free, .int .i64 l.held, .int .i64 l.sold, .int .i64 l.tied] 32))) := (Below.refl _ _).alloc (Nat.le_refl _) _
  unfold leA
  by_cases g0 : (1 ≤ l.total ∧ l.total ≤ 60)
  rotate_left
  · refine Calls.mono (R := fun e w' => e = .returned (.bool false) ∧ Below w.heap.size w w') ?_ (fun e w' h => ⟨by rw [h.1, decide_eq_false (fun hh => g0 (hh.1))], h.2⟩)
    go_enter Try.func62, Try.ntmps62
    go_wp2_with (go_at_call 45; first | (refine (l1In_yes _ _ _ _ (by omega)).mono ?_; rintro e w' ⟨rfl, rfl⟩) | (refine (l1In_no _ _ _ _ (by omega)).mono ?_; rintro e w' ⟨rfl, rfl⟩))
    go_ret
    exact ⟨rfl, b0.out⟩
  by_cases g1 : (0 ≤ l.free ∧ l.free ≤ l.total)
  rotate_left
  · refine Calls.mono (R := fun e w' => e = .returned (.bool false) ∧ Below w.heap.size w w') ?_ (fun e w' h => ⟨by rw [h.1, decide_eq_false (fun hh => g1 (hh.2.1))], h.2⟩)
    go_enter Try.func62, Try.ntmps62
    go_wp2_with (go_at_call 45; first | (refine (l1In_yes _ _ _ _ (by omega)).mono ?_; rintro e w' ⟨rfl, rfl⟩) | (refine (l1In_no _ _ _ _ (by omega)).mono ?_; rintro e w' ⟨rfl, rfl⟩))
    go_ret
    exact ⟨rfl, b0.out⟩
  by_cases g2 : (0 ≤ l.held ∧ l.held ≤ l.total)
  rotate_left
  · refine Calls.mono (R := fun e w' => e = .returned (.bool false) ∧ Below w.heap.size w w') ?_ (fun e w' h => ⟨by rw [h.1, decide_eq_false (fun hh => g2 (hh.2.2.1))], h.2⟩)
    go_enter Try.func62, Try.ntmps62
    go_wp2_with (go_at_call 45; first | (refine (l1In_yes _ _ _ _ (by omega)).mono ?_; rintro e w' ⟨rfl, rfl⟩) | (refine (l1In_no _ _ _ _ (by omega)).mono ?_; rintro e w' ⟨rfl, rfl⟩))
    go_ret
    exact ⟨rfl, b0.out⟩
  by_cases g3 : (0 ≤ l.sold ∧ l.sold ≤ l.total)
  rotate_left
  · refine Calls.mono (R := fun e w' => e = .returned (.bool false) ∧ Below w.heap.size w w') ?_ (fun e w' h => ⟨by rw [h.1, decide_eq_false (fun hh => g3 (hh.2.2.2.1))], h.2⟩)
    go_enter Try.func62, Try.ntmps62
    go_wp2_with (go_at_call 45; first | (refine (l1In_yes _ _ _ _ (by omega)).mono ?_; rintro e w' ⟨rfl, rfl⟩) | (refine (l1In_no _ _ _ _ (by omega)).mono ?_; rintro e w' ⟨rfl, rfl⟩))
    go_ret
    exact ⟨rfl, b0.out⟩
  by_cases g4 : l.free + l.held + l.sold = l.total
  rotate_left
  · refine Calls.mono (R := fun e w' => e = .returned (.bool false) ∧ Below w.heap.size w w') ?_ (fun e w' h => ⟨by rw [h.1, decide_eq_false (fun hh => g4 (hh.2.2.2.2.1))], h.2⟩)
    have e4 : (l.free + l.held + l.sold == l.total) = false := by simp [g4]
    go_enter Try.func62, Try.ntmps62
    go_wp2_with (go_at_call 45; first | (refine (l1In_yes _ _ _ _ (by omega)).mono ?_; rintro e w' ⟨rfl, rfl⟩) | (refine (l1In_no _ _ _ _ (by omega)).mono ?_; rintro e w' ⟨rfl, rfl⟩))
    go_ret
    exact ⟨rfl, b0.out⟩
  have e4 : (l.free + l.held + l.sold == l.total) = true := by simp [g4]
  by_cases g5 : (0 ≤ l.tied ∧ l.tied ≤ l.sold)
  rotate_left
  · refine Calls.mono (R := fun e w' => e = .returned (.bool false) ∧ Below w.heap.size w w') ?_ (fun e w' h => ⟨by rw [h.1, decide_eq_false (fun hh => g5 (hh.2.2.2.2.2))], h.2⟩)
    go_enter Try.func62, Try.ntmps62
    go_wp2_with (go_at_call 45; first | (refine (l1In_yes _ _ _ _ (by omega)).mono ?_; rintro e w' ⟨rfl, rfl⟩) | (refine (l1In_no _ _ _ _ (by omega)).mono ?_; rintro e w' ⟨rfl, rfl⟩))
    go_ret
    exact ⟨rfl, b0.out⟩
  refine Calls.mono (R := fun e w' => e = .returned (.bool true) ∧ Below w.heap.size w w') ?_ (fun e w' h => ⟨by rw [h.1, decide_eq_true ⟨g0, g1, g2, g3, g4, g5⟩], h.2⟩)
  go_enter Try.func62, Try.ntmps62
  go_wp2_with (go_at_call 45; first | (refine (l1In_yes _ _ _ _ (by omega)).mono ?_; rintro e w' ⟨rfl, rfl⟩) | (refine (l1In_no _ _ _ _ (by omega)).mono ?_; rintro e w' ⟨rfl, rfl⟩))
  go_ret
  exact ⟨rfl, b0.out⟩
/-- What LedgerNew returns. -/
def ledgerNewV (t : Int) : Le × Bool := if 1 ≤ t ∧ t ≤ 60 then (⟨t, 0, 0, t, 0⟩, true) else (le0, false)
theorem ledgerNew_fine (t : Int) : Le.fine ⟨t, 0, 0, t, 0⟩ ↔ 1 ≤ t ∧ t ≤ 60 := by
  unfold Le.fine
  constructor
  · intro h; exact h.1
  · intro h; refine ⟨h, ?_, ?_, ?_, ?_, ?_⟩ <;> simp <;> omega
theorem three_setk {w w1 : World} {A B C : Obj} (b : Below w.heap.size w w1) (i : Nat) (k : Nat) (v : Value) : Below w.heap.size w (w1.setCell ⟨w.heap.size + k, i, none⟩ v) := b.setCell (by simp) _
set_option maxRecDepth 100000 in
set_option maxHeartbeats 1600000 in
theorem ledgerNew_spec (t : Int) (w : World) : Calls Try.prog 49 #[.int .i64 t] w fun e w' => e = .returned (.tuple #[leA (ledgerNewV t).1, .bool (ledgerNewV t).2]) ∧ Below w.heap.size w w' := by
  have CR := Lib.hid (fun w => ledgerOk_spec ⟨t, 0, 0, t, 0⟩ w)
  unfold leA at CR
  obtain ⟨R, hR⟩ : ∃ R : Value, .tuple #[leA (ledgerNewV t).1, .bool (ledgerNewV t).2] = R := ⟨_, rfl⟩
  rw [hR]
  unfold ledgerNewV at hR
  by_cases h : 1 ≤ t ∧ t ≤ 60
  · have HV : Hid (R = .tuple #[leA ⟨t, 0, 0, t, 0⟩, .bool true]) := by show _ = _; rw [← hR, if_pos h]
    rw [decide_eq_true ((ledgerNew_fine t).2 h)] at CR
    clear hR
    go_enter Try.func49, Try.ntmps49
    go_wp2_with fail
    refine (CR.out _).mono ?_
    rintro e w1 ⟨rfl, b1⟩
    have T1 := two_at w w1 _ _ b1
    clear b1
    have c0 := cell_of_row _ _ 0 _ _ _ T1.1
    have c1 := cell_of_row _ _ 1 _ _ _ T1.1
    have c2 := cell_of_row _ _ 2 _ _ _ T1.1
    have c3 := cell_of_row _ _ 3 _ _ _ T1.1
    have c4 := cell_of_row _ _ 4 _ _ _ T1.1
    have d0 := frozen_of_row _ _ 0 _ _ T1.1
    have d1 := frozen_of_row _ _ 1 _ _ T1.1
    have d2 := frozen_of_row _ _ 2 _ _ T1.1
    have d3 := frozen_of_row _ _ 3 _ _ T1.1
    have d4 := frozen_of_row _ _ 4 _ _ T1.1
    simp at c0 c1 c2 c3 c4
    have p0 := cell_of_row _ _ 0 _ _ _ T1.2.1
    have p1 := cell_of_row _ _ 1 _ _ _ T1.2.1
    have p2 := cell_of_row _ _ 2 _ _ _ T1.2.1
    have p3 := cell_of_row _ _ 3 _ _ _ T1.2.1
    have p4 := cell_of_row _ _ 4 _ _ _ T1.2.1
    simp at p0 p1 p2 p3 p4
    have bW := Lib.hid T1.2.2
    clear T1 CR
    go_wp2
    simp [bodyPost, results, Try.results49, go_sem, c0, c1, c2, c3, c4]
    exact ⟨by rw [HV.out] <;> rfl, ((((bW.out.setCell (by simp <;> omega) _).setCell (by simp <;> omega) _).setCell (by simp <;> omega) _).setCell (by simp <;> omega) _).setCell (by simp <;> omega) _⟩
  · have HV : Hid (R = .tuple #[leA le0, .bool false]) := by show _ = _; rw [← hR, if_neg h]
    rw [decide_eq_false (fun x => h ((ledgerNew_fine t).1 x))] at CR
    clear hR
    go_enter Try.func49, Try.ntmps49
    go_wp2_with fail
    refine (CR.out _).mono ?_
    rintro e w1 ⟨rfl, b1⟩
    have T1 := two_at w w1 _ _ b1
    clear b1
    have c0 := cell_of_row _ _ 0 _ _ _ T1.1
    have c1 := cell_of_row _ _ 1 _ _ _ T1.1
    have c2 := cell_of_row _ _ 2 _ _ _ T1.1
    have c3 := cell_of_row _ _ 3 _ _ _ T1.1
    have c4 := cell_of_row _ _ 4 _ _ _ T1.1
    have d0 := frozen_of_row _ _ 0 _ _ T1.1
    have d1 := frozen_of_row _ _ 1 _ _ T1.1
    have d2 := frozen_of_row _ _ 2 _ _ T1.1
    have d3 := frozen_of_row _ _ 3 _ _ T1.1
    have d4 := frozen_of_row _ _ 4 _ _ T1.1
    simp at c0 c1 c2 c3 c4
    have p0 := cell_of_row _ _ 0 _ _ _ T1.2.1
    have p1 := cell_of_row _ _ 1 _ _ _ T1.2.1
    have p2 := cell_of_row _ _ 2 _ _ _ T1.2.1
    have p3 := cell_of_row _ _ 3 _ _ _ T1.2.1
    have p4 := cell_of_row _ _ 4 _ _ _ T1.2.1
    simp at p0 p1 p2 p3 p4
    have bW := Lib.hid T1.2.2
    clear T1 CR
    go_wp2
    simp [bodyPost, results, Try.results49, go_sem, c0, c1, c2, c3, c4]
    exact ⟨by rw [HV.out] <;> rfl, ((((bW.out.setCell (by simp <;> omega) _).setCell (by simp <;> omega) _).setCell (by simp <;> omega) _).setCell (by simp <;> omega) _).setCell (by simp <;> omega) _⟩
end Go.Proofs.Ytdjglbmcpfaofaa
