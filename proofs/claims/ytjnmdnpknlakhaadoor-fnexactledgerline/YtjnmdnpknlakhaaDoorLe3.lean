/- SeatsHold .. of the model. -/
import Derived.Test.YtjnmdnpknlakhaaDoorRows
import Derived.Test.YtjnmdnpknlakhaaDoorLe2
namespace Go.Proofs.YtjnmdnpknlakhaaDoor
open Go.RowKit
set_option linter.unusedSimpArgs false
set_option linter.unusedVariables false

end Go.Proofs.YtjnmdnpknlakhaaDoor
