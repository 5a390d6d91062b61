/- BitsOK, anyWidths, knownVec; readsNothing and like of a cell; widthOfAll. -/
import Derived.Test.YtjbbjgoofenkpaaM2
namespace Go.Proofs.Ytjbbjgoofenkpaa
open Go.RowKit Gs
set_option linter.unusedVariables false
set_option maxRecDepth 100000
def anyW (n : Int) : Bool := decide (14 ≤ n) && decide (n ≤ 18)
end Go.Proofs.Ytjbbjgoofenkpaa
