/- l9Put of the model. -/
import Derived.Test.YtlflgflmlfileaaRows
import Derived.Test.YtlflgflmlfileaaRowX
import Derived.Test.YtlflgflmlfileaaHs6
namespace Go.Proofs.Ytlflgflmlfileaa
open Go.RowKit
set_option linter.unusedSimpArgs false
set_option linter.unusedVariables false
/-- What l9Put returns. -/
def pnPut (l : List Pn) (x : Pn) : List Pn := insP (fun y => decide (Pn.less y x)) l x
theorem pnPut_len (l : List Pn) (x : Pn) : (pnPut l x).length = l.length + 1 := insP_len _ _ _
end Go.Proofs.Ytlflgflmlfileaa
