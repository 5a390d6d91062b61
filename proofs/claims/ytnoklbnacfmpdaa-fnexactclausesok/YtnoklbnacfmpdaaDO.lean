/- What a reading of an argument gives. -/
import Derived.Test.YtnoklbnacfmpdaaDD
import Derived.Test.YtnoklbnacfmpdaaGS3
namespace Go.Proofs.Ytnoklbnacfmpdaa
open Go.RowKit Gs
set_option linter.unusedVariables false
set_option maxRecDepth 100000
end Go.Proofs.Ytnoklbnacfmpdaa
