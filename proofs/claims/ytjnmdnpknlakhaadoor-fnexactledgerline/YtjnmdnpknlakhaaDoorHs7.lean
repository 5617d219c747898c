/- EntryOf, LedgerOk, LedgerNew of the model. -/
import Derived.Test.YtjnmdnpknlakhaaDoorRows
import Derived.Test.YtjnmdnpknlakhaaDoorHs5
namespace Go.Proofs.YtjnmdnpknlakhaaDoor
open Go.RowKit
set_option linter.unusedSimpArgs false
set_option linter.unusedVariables false
/-- What EntryOf returns. -/
def entryOfV (r : Ru) (p : Pt) (now : Int) : En × Bool := if levelOfV r p now < 0 ∨ p.state ≠ 1 then (en0, false) else (⟨levelOfV r p now, p.turn, p.id, p.size⟩, true)
/-- What LedgerOk tells. -/
def Le.fine (l : Le) : Prop := (1 ≤ l.total ∧ l.total ≤ 60) ∧ (0 ≤ l.free ∧ l.free ≤ l.total) ∧ (0 ≤ l.held ∧ l.held ≤ l.total) ∧ (0 ≤ l.sold ∧ l.sold ≤ l.total) ∧ l.free + l.held + l.sold = l.total ∧ (0 ≤ l.tied ∧ l.tied ≤ l.sold)
instance (l : Le) : Decidable l.fine := by unfold Le.fine; infer_instance
set_option maxRecDepth 100000 in
set_option maxHeartbeats 1600000 in
theorem ledgerOk_spec (l : Le) (w : World) : Calls Tryd.prog 7 #[leA l] w fun e w' => e = .returned (.bool (decide l.fine)) ∧ Below w.heap.size w w' := by
  have b0 : Hid (Below w.heap.size w (w.alloc (.cells #[.int .i64 l.total, .int .i64 l.free, .int .i64 l.held, .int .i64 l.sold, .int .i64 l.tied] 25))) := (Below.refl _ _).alloc (Nat.le_refl _) _
  unfold leA
  by_cases g0 : (1 ≤ l.total ∧ l.total ≤ 60)
  rotate_left
  · refine Calls.mono (R := fun e w' => e = .returned (.bool false) ∧ Below w.heap.size w w') ?_ (fun e w' h => ⟨by rw [h.1, decide_eq_false (fun hh => g0 (hh.1))], h.2⟩)
    go_enter Tryd.func7, Tryd.ntmps7
    go_wp2_with (go_at_call 13; first | (refine (l1In_yes _ _ _ _ (by omega)).mono ?_; rintro e w' ⟨rfl, rfl⟩) | (refine (l1In_no _ _ _ _ (by omega)).mono ?_; rintro e w' ⟨rfl, rfl⟩))
    go_ret
    exact ⟨rfl, b0.out⟩
  by_cases g1 : (0 ≤ l.free ∧ l.free ≤ l.total)
  rotate_left
  · refine Calls.mono (R := fun e w' => e = .returned (.bool false) ∧ Below w.heap.size w w') ?_ (fun e w' h => ⟨by rw [h.1, decide_eq_false (fun hh => g1 (hh.2.1))], h.2⟩)
    go_enter Tryd.func7, Tryd.ntmps7
    go_wp2_with (go_at_call 13; first | (refine (l1In_yes _ _ _ _ (by omega)).mono ?_; rintro e w' ⟨rfl, rfl⟩) | (refine (l1In_no _ _ _ _ (by omega)).mono ?_; rintro e w' ⟨rfl, rfl⟩))
    go_ret
    exact ⟨rfl, b0.out⟩
  by_cases g2 : (0 ≤ l.held ∧ l.held ≤ l.total)
  rotate_left
  · refine Calls.mono (R := fun e w' => e = .returned (.bool false) ∧ Below w.heap.size w w') ?_ (fun e w' h => ⟨by rw [h.1, decide_eq_false (fun hh => g2 (hh.2.2.1))], h.2⟩)
    go_enter Tryd.func7, Tryd.ntmps7
    go_wp2_with (go_at_call 13; first | (refine (l1In_yes _ _ _ _ (by omega)).mono ?_; rintro e w' ⟨rfl, rfl⟩) | (refine (l1In_no _ _ _ _ (by omega)).mono ?_; rintro e w' ⟨rfl, rfl⟩))
    go_ret
    exact ⟨rfl, b0.out⟩
  by_cases g3 : (0 ≤ l.sold ∧ l.sold ≤ l.total)
  rotate_left
  · refine Calls.mono (R := fun e w' => e = .returned (.bool false) ∧ Below w.heap.size w w') ?_ (fun e w' h => ⟨by rw [h.1, decide_eq_false (fun hh => g3 (hh.2.2.2.1))], h.2⟩)
    go_enter Tryd.func7, Tryd.ntmps7
    go_wp2_with (go_at_call 13; first | (refine (l1In_yes _ _ _ _ (by omega)).mono ?_; rintro e w' ⟨rfl, rfl⟩) | (refine (l1In_no _ _ _ _ (by omega)).mono ?_; rintro e w' ⟨rfl, rfl⟩))
    go_ret
    exact ⟨rfl, b0.out⟩
  by_cases g4 : l.free + l.held + l.sold = l.total
  rotate_left
  · refine Calls.mono (R := fun e w' => e = .returned (.bool false) ∧ Below w.heap.size w w') ?_ (fun e w' h => ⟨by rw [h.1, decide_eq_false (fun hh => g4 (hh.2.2.2.2.1))], h.2⟩)
    have e4 : (l.free + l.held + l.sold == l.total) = false := by simp [g4]
    go_enter Tryd.func7, Tryd.ntmps7
    go_wp2_with (go_at_call 13; first | (refine (l1In_yes _ _ _ _ (by omega)).mono ?_; rintro e w' ⟨rfl, rfl⟩) | (refine (l1In_no _ _ _ _ (by omega)).mono ?_; rintro e w' ⟨rfl, rfl⟩))
    go_ret
    exact ⟨rfl, b0.out⟩
  have e4 : (l.free + l.held + l.sold == l.total) = true := by simp [g4]
  by_cases g5 : (0 ≤ l.tied ∧ l.tied ≤ l.sold)
  rotate_left
  · refine Calls.mono (R := fun e w' => e = .returned (.bool false) ∧ Below w.heap.size w w') ?_ (fun e w' h => ⟨by rw [h.1, decide_eq_false (fun hh => g5 (hh.2.2.2.2.2))], h.2⟩)
    go_enter Tryd.func7, Tryd.ntmps7
    go_wp2_with (go_at_call 13; first | (refine (l1In_yes _ _ _ _ (by omega)).mono ?_; rintro e w' ⟨rfl, rfl⟩) | (refine (l1In_no _ _ _ _ (by omega)).mono ?_; rintro e w' ⟨rfl, rfl⟩))
    go_ret
    exact ⟨rfl, b0.out⟩
  refine Calls.mono (R := fun e w' => e = .returned (.bool true) ∧ Below w.heap.size w w') ?_ (fun e w' h => ⟨by rw [h.1, decide_eq_true ⟨g0, g1, g2, g3, g4, g5⟩], h.2⟩)
  go_enter Tryd.func7, Tryd.ntmps7
  go_wp2_with (go_at_call 13; first | (refine (l1In_yes _ _ _ _ (by omega)).mono ?_; rintro e w' ⟨rfl, rfl⟩) | (refine (l1In_no _ _ _ _ (by omega)).mono ?_; rintro e w' ⟨rfl, rfl⟩))
  go_ret
  exact ⟨rfl, b0.out⟩
/-- What LedgerNew returns. -/
def ledgerNewV (t : Int) : Le × Bool := if 1 ≤ t ∧ t ≤ 60 then (⟨t, 0, 0, t, 0⟩, true) else (le0, false)
theorem ledgerNew_fine (t : Int) : Le.fine ⟨t, 0, 0, t, 0⟩ ↔ 1 ≤ t ∧ t ≤ 60 := by
  unfold Le.fine
  constructor
  · intro h; exact h.1
  · intro h; refine ⟨h, ?_, ?_, ?_, ?_, ?_⟩ <;> simp <;> omega
theorem three_setk {w w1 : World} {A B C : Obj} (b : Below w.heap.size w w1) (i : Nat) (k : Nat) (v : Value) : Below w.heap.size w (w1.setCell ⟨w.heap.size + k, i, none⟩ v) := b.setCell (by simp) _
end Go.Proofs.YtjnmdnpknlakhaaDoor
