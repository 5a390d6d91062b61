/- What a reading of an argument gives. -/
import Derived.Test.YtnoklbnacfmpdabDD
import Derived.Test.YtnoklbnacfmpdabGS3
namespace Go.Proofs.Ytnoklbnacfmpdab
open Go.RowKit Gs
set_option linter.unusedVariables false
set_option maxRecDepth 100000
end Go.Proofs.Ytnoklbnacfmpdab
