/- PartyOk, LevelOf of the model. -/
import Derived.Test.YtlflgflmlfileaaRows
import Derived.Test.YtlflgflmlfileaaHs3
namespace Go.Proofs.Ytlflgflmlfileaa
open Go.RowKit
set_option linter.unusedSimpArgs false
set_option linter.unusedVariables false
/-- What PartyOk tells. -/
def Pt.fine (r : Ru) (p : Pt) (now : Int) : Prop := r.fine ∧ (0 ≤ now ∧ now ≤ 1000000) ∧ (1 ≤ p.id ∧ p.id ≤ 999) ∧ (0 ≤ p.cabin ∧ p.cabin ≤ (r.seats.length : Int) - 1) ∧ (-1 ≤ p.from_ ∧ p.from_ ≤ (r.seats.length : Int) - 1) ∧ ¬ p.from_ = p.cabin ∧ (1 ≤ p.size ∧ p.size ≤ r.size) ∧ (0 ≤ p.tier ∧ p.tier ≤ r.tiers - 1) ∧ (0 ≤ p.since ∧ p.since ≤ now) ∧ (1 ≤ p.turn ∧ p.turn ≤ 1000000) ∧ (0 ≤ p.asked ∧ p.asked ≤ r.tries - 1) ∧ (p.state = 1 ∧ (0 ≤ p.until_ ∧ p.until_ ≤ now + r.rest) ∨ p.state = 2 ∧ (1 ≤ p.until_ ∧ p.until_ ≤ now + r.window))
instance (r : Ru) (p : Pt) (now : Int) : Decidable (Pt.fine r p now) := by unfold Pt.fine; infer_instance
/-- What LevelOf returns. -/
def levelOfV (r : Ru) (p : Pt) (now : Int) : Int := if Pt.fine r p now then levN r p.tier (now - p.since) else -1
end Go.Proofs.Ytlflgflmlfileaa
