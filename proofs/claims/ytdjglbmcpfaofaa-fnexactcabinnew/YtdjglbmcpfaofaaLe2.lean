/- l8Turn of the model. -/
import Derived.Test.YtdjglbmcpfaofaaRows
import Derived.Test.YtdjglbmcpfaofaaLeL
import Derived.Test.YtdjglbmcpfaofaaHs7
namespace Go.Proofs.Ytdjglbmcpfaofaa
open Go.RowKit
set_option linter.unusedSimpArgs false
set_option linter.unusedVariables false
def putLe (w : World) (b : Nat) (q : Le) : World := (((((w.setCell ⟨b, 0, none⟩ (.int .i64 q.total)).setCell ⟨b, 1, none⟩ (.int .i64 q.free)).setCell ⟨b, 2, none⟩ (.int .i64 q.held)).setCell ⟨b, 3, none⟩ (.int .i64 q.sold)).setCell ⟨b, 4, none⟩ (.int .i64 q.tied))
theorem putLe_below {B : Nat} {w0 w : World} {b : Nat} {q : Le} (h : Below B w0 w) (hb : B ≤ b) : Below B w0 (putLe w b q) := by
  unfold putLe
  exact (((((h.setCell hb _).setCell hb _).setCell hb _).setCell hb _).setCell hb _)
/-- What moving seats returns. -/
def turnV (l : Le) (n F H S T : Int) : Le × Bool := if l.fine ∧ (0 ≤ n ∧ n ≤ 60) ∧ Le.fine (⟨l.total, l.free + F, l.held + H, l.sold + S, l.tied + T⟩ : Le) then ((⟨l.total, l.free + F, l.held + H, l.sold + S, l.tied + T⟩ : Le), true) else (l, false)
end Go.Proofs.Ytdjglbmcpfaofaa
