/- More small functions of the program. -/
import Derived.Test.YtjbbjgoofenkpaaM1
namespace Go.Proofs.Ytjbbjgoofenkpaa
open Go.RowKit Gs
set_option linter.unusedVariables false
set_option maxRecDepth 100000
def signOp (n : Int) : Bool := decide (n = 7) || decide (n = 8) || decide (n = 12) || decide (n = 13)
def cellOp (n : Int) : Bool := decide (n ≠ 7) && decide (n ≠ 8) && decide (n ≠ 11) && decide (1 ≤ n) && decide (n ≤ 29)
end Go.Proofs.Ytjbbjgoofenkpaa
