/- EntryOf, LedgerOk, LedgerNew of the model. -/
import Derived.Test.YtlflgflmlfileaaRows
import Derived.Test.YtlflgflmlfileaaHs5
namespace Go.Proofs.Ytlflgflmlfileaa
open Go.RowKit
set_option linter.unusedSimpArgs false
set_option linter.unusedVariables false
/-- What EntryOf returns. -/
def entryOfV (r : Ru) (p : Pt) (now : Int) : En × Bool := if levelOfV r p now < 0 ∨ p.state ≠ 1 then (en0, false) else (⟨levelOfV r p now, p.turn, p.id, p.size⟩, true)
/-- What LedgerOk tells. -/
def Le.fine (l : Le) : Prop := (1 ≤ l.total ∧ l.total ≤ 60) ∧ (0 ≤ l.free ∧ l.free ≤ l.total) ∧ (0 ≤ l.held ∧ l.held ≤ l.total) ∧ (0 ≤ l.sold ∧ l.sold ≤ l.total) ∧ l.free + l.held + l.sold = l.total ∧ (0 ≤ l.tied ∧ l.tied ≤ l.sold)
instance (l : Le) : Decidable l.fine := by unfold Le.fine; infer_instance
/-- What LedgerNew returns. -/
def ledgerNewV (t : Int) : Le × Bool := if 1 ≤ t ∧ t ≤ 60 then (⟨t, 0, 0, t, 0⟩, true) else (le0, false)
theorem ledgerNew_fine (t : Int) : Le.fine ⟨t, 0, 0, t, 0⟩ ↔ 1 ≤ t ∧ t ≤ 60 := by
  unfold Le.fine
  constructor
  · intro h; exact h.1
  · intro h; refine ⟨h, ?_, ?_, ?_, ?_, ?_⟩ <;> simp <;> omega
theorem three_setk {w w1 : World} {A B C : Obj} (b : Below w.heap.size w w1) (i : Nat) (k : Nat) (v : Value) : Below w.heap.size w (w1.setCell ⟨w.heap.size + k, i, none⟩ v) := b.setCell (by simp) _
end Go.Proofs.Ytlflgflmlfileaa
