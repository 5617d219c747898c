/- l7Copy, l7Put of the model. -/
import Derived.Test.YtflomkebgiemaaaRows
import Derived.Test.YtflomkebgiemaaaRowX
import Derived.Test.YtflomkebgiemaaaHs6
namespace Go.Proofs.Ytflomkebgiemaaa
open Go.RowKit
set_option linter.unusedSimpArgs false
set_option linter.unusedVariables false
/-- What l7Put returns. -/
def enPut (l : List En) (x : En) : List En := insP (fun y => decide (En.less y x)) l x
theorem enPut_len (l : List En) (x : En) : (enPut l x).length = l.length + 1 := insP_len _ _ _
end Go.Proofs.Ytflomkebgiemaaa
