/- What a reading of an argument gives. -/
import Derived.Test.YtonfbnbkhpabbaaDD
import Derived.Test.YtonfbnbkhpabbaaGS3
namespace Go.Proofs.Ytonfbnbkhpabbaa
open Go.RowKit Gs
set_option linter.unusedVariables false
set_option maxRecDepth 100000
end Go.Proofs.Ytonfbnbkhpabbaa
